/-
  Contract of slices.Insert at [][]uint64, one row put into a slice of the call's own: at its end, in place, in new memory. For at most 2^20 rows.
-/
import Derived.Test.YtohiiagpfepjnaaDoorEA
import Derived.Lib.Overlaps
import Derived.Lib.AppendZerosOnto
import Derived.Lib.AppendZeros
import Derived.Laws.Externs
import Derived.Laws.IdiomCopy
import Derived.Laws.NewBlocks
import Derived.Deep.RegionLaw
namespace Go.Proofs.YtohiiagpfepjnaaDoor
open Go.RowKit
set_option linter.unusedVariables false

theorem info_u64s : (Tryd.prog.info? 31).map (fun i => (i.zero, i.size, i.bytes)) = some (some (.slice none 0 0), 1, 24) := by kernel_rfl
theorem info_u64s_one : (Tryd.prog.info? 31).map (·.size) = some 1 := by kernel_rfl
theorem size_u64s (w : World) : (sizeOf 31).run Tryd.prog w = .ok 1 w := by
  obtain ⟨i0, hi, _, hz, _⟩ := info_parts info_u64s
  simp [sizeOf, typeInfo, hi, hz]

theorem copy_step {o : Oper} {a : Act} {w : World} {K : Act → World → Prop} {Q : Exit → Act → World → Prop} (d s : Operand) (t : TypeId)
    (ho : o.op = .call { callee := .builtin .copy, args := #[d, s], argTypes := #[t, t] }) (v u : Value) (hd : a.eval d = v) (hs : a.eval s = u) {v' : Value} {w' : World}
    (hr : (Builtin.copy_ #[t, t] o.type #[v, u]).run Tryd.prog w = .ok v' w') (h : K (a.put o.dst v') w') : o.wp Tryd.prog a w K Q := by
  unfold Oper.wp execOp
  simp only [ho, resolve, invoke, builtin, Sem.run_bind, Sem.run_pure, Result.andThen_ok, List.map_toArray, List.map_cons, List.map_nil, hd, hs, hr]
  exact h
theorem copy_list {w : World} {ops : Array Oper} {rest : List Oper} {o : Oper} {a : Act} {Q : Exit → Act → World → Prop} (hgd : o.guard = none) (d s : Operand) (t : TypeId)
    (ho : o.op = .call { callee := .builtin .copy, args := #[d, s], argTypes := #[t, t] }) (v u : Value) (hd : a.eval d = v) (hs : a.eval s = u) {v' : Value} {w' : World}
    (hr : (Builtin.copy_ #[t, t] o.type #[v, u]).run Tryd.prog w = .ok v' w') (h : wpList Tryd.prog ops Q rest (a.put o.dst v') w') : wpList Tryd.prog ops Q (o :: rest) a w :=
  wpList_plain hgd fun _ hK => copy_step d s t ho v u hd hs hr (hK _ _ h)
theorem copy_region {ops : Array Oper} {o : Oper} {a : Act} {w : World} {K : Act → World → Prop} {Q : Exit → Act → World → Prop} {E : Prop} (hg : o.guard = none) (d s : Operand) (t : TypeId)
    (ho : o.op = .call { callee := .builtin .copy, args := #[d, s], argTypes := #[t, t] }) (v u : Value) (hd : a.eval d = v) (hs : a.eval s = u) {v' : Value} {w' : World}
    (hr : (Builtin.copy_ #[t, t] o.type #[v, u]).run Tryd.prog w = .ok v' w') (h : K (a.put o.dst v') w') :
    if Region.wanted o (yielded ops a.tmps) = true then Oper.wp Tryd.prog o a w K Q else E := by
  rw [if_pos (by simp [Region.wanted, hg])]
  exact copy_step d s t ho v u hd hs hr h

/-- A block of one's own behind a row of stores. -/
theorem setCells_block (g : Nat) (e : TypeId) : ∀ (vs : List Value) (o : Nat) (w : World) (cur : Array Value), w.heap[g]? = some (.cells cur e (0, 0)) →
    ∃ cur', (w.setCells g o vs).heap[g]? = some (.cells cur' e (0, 0)) ∧ cur'.size = cur.size ∧ ∀ j, j < cur.size → cur'[j]? = if o ≤ j ∧ j < o + vs.length then vs[j - o]? else cur[j]?
  | [], o, w, cur, h => ⟨cur, h, rfl, fun j hj => by rw [if_neg (by simp only [List.length_nil]; omega)]⟩
  | v :: r, o, w, cur, h => by
    obtain ⟨cur', h1, h2, h3⟩ := setCells_block g e r (o + 1) (w.setCell ⟨g, o, none⟩ v) (cur.setIfInBounds o v) (heap_setCell_same w g o cur e v h)
    refine ⟨cur', h1, by simpa using h2, fun j hj => ?_⟩
    rw [h3 j (by simpa using hj)]
    by_cases hjo : j = o
    · subst hjo
      rw [if_neg (by omega), if_pos (by simp)]
      simp [hj]
    · by_cases hin : o + 1 ≤ j ∧ j < o + 1 + r.length
      · rw [if_pos hin, if_pos (by simp; omega)]
        rw [show j - o = (j - (o + 1)) + 1 by omega, List.getElem?_cons_succ]
      · rw [if_neg hin, if_neg (by simp; omega)]
        rw [Array.getElem?_setIfInBounds_ne (by omega)]
theorem setCells_gb (g : Nat) : ∀ (vs : List Value) (o : Nat) (w : World), w.grownBy (w.setCells g o vs) (some g)
  | [], o, w => gb_refl _ _
  | v :: r, o, w => gb_trans (gb_setCell w g o v) (setCells_gb g r (o + 1) _) (.inl rfl)

/-- What the two copies leave, be it in place or in new memory. -/
theorem insert_cells {cur0 cur1 cur2 : Array Value} {cs : List Value} {rv : Value} {n i : Nat} (hl : cs.length = n) (hi : i < n) (hs : n + 1 ≤ cur0.size)
    (h0 : ∀ j, j < i → cur0[j]? = cs[j]?) (h2 : ∀ j, j < cur0.size → cur2[j]? = if i ≤ j ∧ j < i + 1 then some rv else if i + 1 ≤ j ∧ j < n + 1 then cs[j - 1]? else cur0[j]?) (hz : cur2.size = cur0.size) :
    cur2.toList.take (n + 1) = cs.take i ++ rv :: cs.drop i := by
  apply List.ext_getElem?
  intro j
  by_cases hj : j < n + 1
  · rw [List.getElem?_take_of_lt hj, Array.getElem?_toList, h2 j (by omega)]
    by_cases h1 : j < i
    · rw [if_neg (by omega), if_neg (by omega), h0 j h1, List.getElem?_append_left (by rw [List.length_take]; omega), List.getElem?_take_of_lt h1]
    · rw [List.getElem?_append_right (by rw [List.length_take]; omega), List.length_take, Nat.min_eq_left (by omega)]
      by_cases h3 : j = i
      · subst h3
        rw [if_pos (by omega), Nat.sub_self]; rfl
      · rw [if_neg (by omega), if_pos (by omega), show j - i = (j - i - 1) + 1 by omega, List.getElem?_cons_succ, List.getElem?_drop]
        congr 1; omega
  · rw [List.getElem?_eq_none (by simp; omega), List.getElem?_eq_none (by simp; omega)]

set_option maxHeartbeats 1000000 in
/-- At the end. -/
theorem insert_end (B : Nat) (a : Option Addr) (n c : Nat) (cs : List Value) (vb : Nat) (rv : Value) (w : World) (ho : w.ownsRow B 31 1 (.slice a n c) n cs) (hB : B ≤ w.heap.size) (hn : n ≤ 1048576)
    (hv : w.heap[vb]? = some (.cells #[rv] 31 (0, 0))) (h1 : rv.oneCell' = true) (hx : (.slice a n c : Value).ownBlock = none → n = 0 ∧ c = 0) (hc : c ≤ 9223372036854775807) (hnc : n ≤ c) :
    Calls Tryd.prog 28 #[.slice a n c, .int .i64 n, .slice (some ⟨vb, 0, none⟩) 1 1] w fun e w' => ∃ s', e = .returned s' ∧ w'.ownsRow B 31 1 s' (n + 1) (cs ++ [rv]) ∧ w.grownBy w' (Value.slice a n c).ownBlock := by
  obtain ⟨i0, hi, hz0, hz1, hz2⟩ := info_parts info_u64s
  have hvc : w.cell? ⟨vb, 0, none⟩ = some rv := by rw [cell_of_row w vb 0 _ _ _ hv]; rfl
  have hnews : ∀ j u, [rv][j]? = some u → w.cell? ((⟨vb, 0, none⟩ : Addr).add j) = some u := by
    intro j u hj
    match j with
    | 0 => simpa [Addr.add, hvc] using hj
    | j + 1 => simp at hj
  have hone : ∀ u ∈ [rv], u.oneCell' = true := fun u hu => by rw [List.mem_singleton.1 hu]; exact h1
  cases a with
  | none =>
    obtain ⟨rfl, rfl⟩ := hx rfl
    go_enter Tryd.func28, Tryd.ntmps28
    go_wp2_with (first | (at_builtin; refine wpList_append_own _ rfl (.tmp 23) (.tmp 24) 22 rfl B 31 i0 (.slice none 0 0) 1 24 Tryd.underlying22 hi hz0 hz1 hz2 rfl (by decide) _ _ _ rfl ho ⟨vb, 0, none⟩ 1 1 [rv] rfl rfl hnews hone (by unfold maxLen; omega) (by omega) hB ?_))
    intro v' w1 hown hgrow _
    have HO := hide hown
    have HG := hide hgrow
    clear hown hgrow ho hnews hone
    go_wp2
    go_ret
    exact ⟨_, rfl, unhide HO, unhide HG⟩
  | some ad =>
    obtain ⟨g, off, sp⟩ := ad
    go_enter Tryd.func28, Tryd.ntmps28
    go_wp2_with (first | (at_builtin; refine wpList_append_own _ rfl (.tmp 23) (.tmp 24) 22 rfl B 31 i0 (.slice none 0 0) 1 24 Tryd.underlying22 hi hz0 hz1 hz2 rfl (by decide) _ _ _ rfl ho ⟨vb, 0, none⟩ 1 1 [rv] rfl rfl hnews hone (by unfold maxLen; omega) (by omega) hB ?_))
    all_goals
      intro v' w1 hown hgrow _
      have HO := hide hown
      have HG := hide hgrow
      clear hown hgrow ho hnews hone
      go_wp2
      go_ret
      exact ⟨_, rfl, unhide HO, unhide HG⟩

set_option maxHeartbeats 2000000 in
/-- Ahead of the end, where there is room: in place. -/
theorem insert_shift (B g n c i : Nat) (cs : List Value) (vb : Nat) (rv : Value) (w : World) (ho : w.ownsRow B 31 1 (.slice (some ⟨g, 0, none⟩) n c) n cs) (hi : i < n) (hroom : n + 1 ≤ c) (hn : n ≤ 1048576)
    (hv : w.heap[vb]? = some (.cells #[rv] 31 (0, 0))) (hvb : vb ≠ g) (h1 : rv.oneCell' = true) (h1c : ∀ v ∈ cs, v.oneCell' = true) :
    Calls Tryd.prog 28 #[.slice (some ⟨g, 0, none⟩) n c, .int .i64 i, .slice (some ⟨vb, 0, none⟩) 1 1] w fun e w' => ∃ s', e = .returned s' ∧ w'.ownsRow B 31 1 s' (n + 1) (cs.take i ++ rv :: cs.drop i) ∧ w.grownBy w' (some g) := by
  have hcl : cs.length = n := by simpa using ho.1
  obtain ⟨hBg, cur, hg, hcm, hcs, htake⟩ : B ≤ g ∧ ∃ cur, w.heap[g]? = some (.cells cur 31 (0, 0)) ∧ c ≤ maxLen ∧ cur.size = c ∧ cur.toList.take n = cs := by
    rcases ho.2 with ⟨h0, _⟩ | ⟨g', cap', cur, h', hb, hg, hnc, hcm, hcs, htake⟩
    · cases h0
    · simp only [Value.slice.injEq, Option.some.injEq, Addr.mk.injEq, and_true, true_and] at h'
      obtain ⟨rfl, rfl⟩ := h'
      exact ⟨hb, cur, hg, hcm, by simpa using hcs, by simpa using htake⟩
  have hc63 : c ≤ 9223372036854775807 := by simpa [maxLen] using hcm
  have hcell : ∀ j, w.cell? ⟨g, j, none⟩ = cur[j]? := fun j => cell_of_row w g j _ _ _ hg
  have hfz : ∀ j, w.frozen? ⟨g, j, none⟩ = false := fun j => by simp [World.frozen?, hg]
  have hcur : ∀ j, j < n → cur[j]? = cs[j]? := fun j hj => by rw [← htake, List.getElem?_take_of_lt hj, Array.getElem?_toList]
  have hsome : ∀ j, j < c → (cur[j]?).isSome = true := fun j hj => by rw [Array.getElem?_eq_getElem (by omega)]; rfl
  have hdl : (cs.drop i).length = n - i := by rw [List.length_drop, hcl]
  have hov : ∀ lb cb, (callFunc 35 #[.slice (some ⟨vb, 0, none⟩) 1 1, .slice (some ⟨g, i + 1, none⟩) lb cb]).run Tryd.prog w = .ok (.value (.bool false)) w := fun lb cb => by
    rw [run_callFunc_extern Tryd.func35 (by kernel_rfl) (by kernel_rfl) (by kernel_rfl) (e := Extern.SlicesOverlaps.overlaps #[22, 22] #[4]) (by kernel_rfl),
      Lib.run_overlaps_apart w 22 4 31 Tryd.underlying22 1 size_u64s ⟨vb, 0, none⟩ ⟨g, i + 1, none⟩ 1 1 lb cb hvb 31 31 1 c (by simp [World.shape?, hv]) (by simp [World.shape?, hg, hcs]) (by omega)
        (by simp [World.frozen?, hv]) (by simp [World.frozen?, hv])]
    rfl
  have hcp1 : ∀ ty dc sc, (Builtin.copy_ #[22, 22] ty #[.slice (some ⟨g, i + 1, none⟩) (n - i) dc, .slice (some ⟨g, i, none⟩) (n + 1 - i) sc]).run Tryd.prog w.drew = .ok (goInt (cs.drop i).length) (w.drew.setCells g (i + 1) (cs.drop i)) := fun ty dc sc =>
    run_copy_cells w.drew _ _ ty 31 g (i + 1) (n - i) dc ⟨g, i, none⟩ (n + 1 - i) sc (cs.drop i) Tryd.underlying22 info_u64s_one (by rw [hdl]; simp only [Nat.min_def]; split <;> omega)
      (fun j v hj => by
        have hlt : j < (cs.drop i).length := (List.getElem?_eq_some_iff.1 hj).1
        rw [Addr.add_lit]
        show w.cell? _ = _
        rw [hcell, hcur _ (by omega)]
        rwa [List.getElem?_drop] at hj)
      (fun j hj => by show (w.cell? _).isSome = true; rw [hcell]; exact hsome _ (by omega)) (fun j hj => hfz _) (fun v hv => h1c v (List.mem_of_mem_drop hv))
  obtain ⟨W1, hW1⟩ : ∃ W1, W1 = w.drew.setCells g (i + 1) (cs.drop i) := ⟨_, rfl⟩
  obtain ⟨cur1, hb1, hs1, hc1⟩ := setCells_block g 31 (cs.drop i) (i + 1) w.drew cur hg
  rw [← hW1] at hb1
  have hgb1 : w.grownBy W1 (some g) := by rw [hW1]; exact gb_trans (gb_drew (gb_refl w _)) (setCells_gb g _ _ _) (.inl rfl)
  have hcp2 : ∀ ty dc, (Builtin.copy_ #[22, 22] ty #[.slice (some ⟨g, i, none⟩) (n + 1 - i) dc, .slice (some ⟨vb, 0, none⟩) 1 1]).run Tryd.prog W1 = .ok (goInt [rv].length) (W1.setCells g i [rv]) := fun ty dc =>
    run_copy_cells W1 _ _ ty 31 g i (n + 1 - i) dc ⟨vb, 0, none⟩ 1 1 [rv] Tryd.underlying22 info_u64s_one (by simp only [Nat.min_def, List.length_singleton]; split <;> omega)
      (fun j v hj => by
        match j with
        | 0 =>
          rw [Addr.add_lit, cell_of_row W1 vb _ #[rv] 31 (0, 0) (by rw [hgb1.block vb (Array.getElem?_eq_some_iff.1 hv).1 (by simpa using hvb)]; exact hv)]
          simpa using hj
        | j + 1 => simp at hj)
      (fun j hj => by rw [cell_of_row W1 g _ _ _ _ hb1, Array.getElem?_eq_getElem (by simp at hj; omega)]; rfl) (fun j hj => by simp [World.frozen?, hb1]) (fun u hu => by rw [List.mem_singleton.1 hu]; exact h1)
  obtain ⟨cur2, hb2, hs2, hc2⟩ := setCells_block g 31 [rv] i W1 cur1 hb1
  have hgb2 : w.grownBy (W1.setCells g i [rv]) (some g) := gb_trans hgb1 (setCells_gb g _ _ _) (.inl rfl)
  have hfin : (W1.setCells g i [rv]).ownsRow B 31 1 (.slice (some ⟨g, 0, none⟩) (n + 1) c) (n + 1) (cs.take i ++ rv :: cs.drop i) := by
    refine ⟨by simp; omega, .inr ⟨g, c, cur2, rfl, hBg, hb2, hroom, hcm, by omega, ?_⟩⟩
    rw [Nat.mul_one]
    refine insert_cells (cur0 := cur) (cur1 := cur1) hcl hi (by omega) (fun j hj => hcur j (by omega)) (fun j hj => ?_) (by omega)
    rw [hc2 j (by omega)]
    by_cases h3 : j = i
    · subst h3; simp
    · rw [if_neg (by simp; omega), if_neg (by omega), hc1 j hj]
      by_cases h4 : i + 1 ≤ j ∧ j < n + 1
      · rw [if_pos (by omega), if_pos h4, List.getElem?_drop]; congr 1; omega
      · rw [if_neg (by omega), if_neg h4]
  rw [← hW1] at hcp1
  have HF := hide hfin
  have HG := hide hgb2
  have hz2 : ¬ ((i : Int) = (n : Int)) := by omega
  have hw1 : IntKind.i64.wrap ((i : Int) + 1) = (i : Int) + 1 := by rw [IntKind.wrap_i64]; omega
  have hb3 : (i : Int) ≤ (n : Int) + 1 := by omega
  have hb0 : (0 : Int) ≤ (i : Int) + 1 := by omega
  have htn : ((i : Int) + 1).toNat = i + 1 := by omega
  have hin : i ≤ n := by omega
  have hb4 : ¬ (c = i + 1) := by omega
  have hb5 : ¬ (c = i) := by omega
  clear hc1 hc2 hb1 hb2 hgb1 hgb2 hfin hcell hfz hcur hsome ho hg htake hs1 hs2 hcs hdl hW1
  go_enter Tryd.func28, Tryd.ntmps28
  go_wp2_with (simp only [hov])
  go_region_law (refine copy_region rfl _ _ 22 rfl _ _ (by simp [Act.eval, Act.put]) (by simp [Act.eval, Act.put]) (hcp1 _ _ _) ?_)
  go_wp2_with (at_builtin; refine copy_list rfl _ _ 22 rfl _ _ rfl rfl (hcp2 _ _) ?_)
  go_ret
  exact ⟨_, rfl, unhide HF, unhide HG⟩

set_option maxHeartbeats 4000000 in
/-- Ahead of the end, where there is no room: in new memory. -/
theorem insert_grow (B g n c i : Nat) (cs : List Value) (vb : Nat) (rv : Value) (w : World) (ho : w.ownsRow B 31 1 (.slice (some ⟨g, 0, none⟩) n c) n cs) (hB : B ≤ w.heap.size) (hi : i < n) (hroom : c < n + 1) (hn : n ≤ 1048576)
    (hv : w.heap[vb]? = some (.cells #[rv] 31 (0, 0))) (h1 : rv.oneCell' = true) (h1c : ∀ v ∈ cs, v.oneCell' = true) :
    Calls Tryd.prog 28 #[.slice (some ⟨g, 0, none⟩) n c, .int .i64 i, .slice (some ⟨vb, 0, none⟩) 1 1] w fun e w' => ∃ s', e = .returned s' ∧ w'.ownsRow B 31 1 s' (n + 1) (cs.take i ++ rv :: cs.drop i) ∧ w.grownBy w' (some g) := by
  have hcl : cs.length = n := by simpa using ho.1
  obtain ⟨cur, hg, hnc, hcs, htake⟩ : ∃ cur, w.heap[g]? = some (.cells cur 31 (0, 0)) ∧ n ≤ c ∧ cur.size = c ∧ cur.toList.take n = cs := by
    rcases ho.2 with ⟨h0, _⟩ | ⟨g', cap', cur, h', hb, hg, hnc, hcm, hcs, htake⟩
    · cases h0
    · simp only [Value.slice.injEq, Option.some.injEq, Addr.mk.injEq, and_true, true_and] at h'
      obtain ⟨rfl, rfl⟩ := h'
      exact ⟨cur, hg, hnc, by simpa using hcs, by simpa using htake⟩
  obtain rfl : c = n := by omega
  have hcell : ∀ j, w.cell? ⟨g, j, none⟩ = cur[j]? := fun j => cell_of_row w g j _ _ _ hg
  have hcur : ∀ j, j < c → cur[j]? = cs[j]? := fun j hj => by rw [← htake, List.getElem?_take_of_lt hj, Array.getElem?_toList]
  have hdl : (cs.drop i).length = c - i := by rw [List.length_drop, hcl]
  have hgw : g < w.heap.size := (Array.getElem?_eq_some_iff.1 hg).1
  have hvw : vb < w.heap.size := (Array.getElem?_eq_some_iff.1 hv).1
  obtain ⟨i0, hi0, hz0, hzs, hzb⟩ := info_parts info_u64s
  have hold : (Builtin.firstCells i0.size i (.slice (some ⟨g, 0, none⟩) i c)).run Tryd.prog w.drew = .ok (cs.take i).toArray w.drew := by
    rw [hzs]
    refine run_firstCells_some w.drew 1 i ⟨g, 0, none⟩ i c (cs.take i) (by rw [List.length_take]; omega) (fun j v hj => ?_)
    have hlt : j < i := by
      have := (List.getElem?_eq_some_iff.1 hj).1
      rw [List.length_take] at this
      omega
    rw [List.getElem?_take_of_lt hlt] at hj
    rw [Addr.add_lit, Nat.zero_add]
    show w.cell? _ = _
    rw [hcell, hcur j (by omega)]
    exact hj
  have hrz : ∀ ty, (Builtin.append_ #[22, 3] ty #[.slice (some ⟨g, 0, none⟩) i c, .int .i64 ((c : Int) + 1 - (i : Int))]).run Tryd.prog w =
      .ok (.slice (some ⟨w.heap.size, 0, none⟩) (c + 1) (grownCap w (c + 1) c 31)) (w.drew.alloc (.cells ((cs.take i).toArray ++ Builtin.zeroCells (Value.slice none 0 0).cells (c + 1 - i) ++ Builtin.zeroCells (Value.slice none 0 0).cells (grownCap w (c + 1) c 31 - (c + 1))) 31)) := fun ty => by
    have h := Lib.run_append_grow_zeros w 22 3 ty 31 i0 _ .i64 .i64 Tryd.underlying22 Tryd.underlying3 hi0 hz0 (some ⟨g, 0, none⟩) i c (cs.take i) hold (c + 1 - i) (by omega) (by omega) (by omega) (by omega) (by rw [hzb]; omega)
      (by rw [hzb, show i + (c + 1 - i) = c + 1 by omega]; exact growslice_fits (by omega) (by omega))
    rw [show i + (c + 1 - i) = c + 1 by omega] at h
    rw [show (c : Int) + 1 - (i : Int) = ((c + 1 - i : Nat) : Int) by omega]
    exact h
  have hGn : c + 1 ≤ grownCap w (c + 1) c 31 := grownCap_ge w _ _ _
  have hGm : grownCap w (c + 1) c 31 ≤ maxLen := grownCap_le_maxLen w _ _ _ (by unfold maxLen; omega)
  obtain ⟨G, hG⟩ : ∃ G, G = grownCap w (c + 1) c 31 := ⟨_, rfl⟩
  rw [← hG] at hrz hGn hGm
  obtain ⟨ROW, hROW⟩ : ∃ ROW : Array Value, ROW = (cs.take i).toArray ++ Builtin.zeroCells (Value.slice none 0 0).cells (c + 1 - i) ++ Builtin.zeroCells (Value.slice none 0 0).cells (G - (c + 1)) := ⟨_, rfl⟩
  rw [← hROW] at hrz
  have hRs : ROW.size = G := by
    rw [hROW]
    simp [Builtin.zeroCells, Value.cells]
    omega
  have hR0 : ∀ j, j < i → ROW[j]? = cs[j]? := fun j hj => by
    have hl : (cs.take i).length = i := by rw [List.length_take]; omega
    rw [hROW, Array.getElem?_append_left (by simp; omega), Array.getElem?_append_left (by simp; omega), List.getElem?_toArray, List.getElem?_take_of_lt hj]
  obtain ⟨N, hN⟩ : ∃ N, N = w.heap.size := ⟨_, rfl⟩
  obtain ⟨W1, hW1⟩ : ∃ W1, W1 = w.drew.alloc (.cells ROW 31) := ⟨_, rfl⟩
  have hb1 : W1.heap[N]? = some (.cells ROW 31 (0, 0)) := by rw [hW1, hN]; exact heap_alloc_new w.drew _
  have hgb1 : w.grownBy W1 (some g) := by rw [hW1]; exact gb_trans (gb_drew (gb_refl w _)) (World.grownBy_alloc w.drew _ (some g)) (.inl rfl)
  rw [← hW1, ← hN] at hrz
  have hold1 : ∀ k, k < N → W1.heap[k]? = w.heap[k]? := fun k hk => by rw [hW1]; exact heap_alloc_old w.drew _ (by rw [hN] at hk; exact hk)
  have hcpA : ∀ ty dc, (Builtin.copy_ #[22, 22] ty #[.slice (some ⟨N, i, none⟩) (c + 1 - i) dc, .slice (some ⟨vb, 0, none⟩) 1 1]).run Tryd.prog W1 = .ok (goInt [rv].length) (W1.setCells N i [rv]) := fun ty dc =>
    run_copy_cells W1 _ _ ty 31 N i (c + 1 - i) dc ⟨vb, 0, none⟩ 1 1 [rv] Tryd.underlying22 info_u64s_one (by simp only [Nat.min_def, List.length_singleton]; split <;> omega)
      (fun j v hj => by
        match j with
        | 0 =>
          rw [Addr.add_lit, cell_of_row W1 vb _ #[rv] 31 (0, 0) (by rw [hold1 vb (by omega)]; exact hv)]
          simpa using hj
        | j + 1 => simp at hj)
      (fun j hj => by rw [cell_of_row W1 N _ _ _ _ hb1, Array.getElem?_eq_getElem (by simp at hj; omega)]; rfl) (fun j hj => by simp [World.frozen?, hb1]) (fun u hu => by rw [List.mem_singleton.1 hu]; exact h1)
  obtain ⟨W2, hW2⟩ : ∃ W2, W2 = W1.setCells N i [rv] := ⟨_, rfl⟩
  obtain ⟨cur1, hb2, hs1, hc1⟩ := setCells_block N 31 [rv] i W1 ROW hb1
  rw [← hW2] at hb2 hcpA
  have hold2 : ∀ k, k < N → W2.heap[k]? = w.heap[k]? := fun k hk => by
    rw [hW2, (setCells_gb N [rv] i W1).block k (Nat.lt_of_lt_of_le hk (by rw [hN]; exact hgb1.size)) (by simp; omega)]
    exact hold1 k hk
  have hcpB : ∀ ty dc sc, (Builtin.copy_ #[22, 22] ty #[.slice (some ⟨N, i + 1, none⟩) (c - i) dc, .slice (some ⟨g, i, none⟩) (c - i) sc]).run Tryd.prog W2.drew = .ok (goInt (cs.drop i).length) (W2.drew.setCells N (i + 1) (cs.drop i)) := fun ty dc sc =>
    run_copy_cells W2.drew _ _ ty 31 N (i + 1) (c - i) dc ⟨g, i, none⟩ (c - i) sc (cs.drop i) Tryd.underlying22 info_u64s_one (by rw [hdl]; simp)
      (fun j v hj => by
        have hlt : j < (cs.drop i).length := (List.getElem?_eq_some_iff.1 hj).1
        rw [Addr.add_lit, cell_of_row W2.drew g _ cur 31 (0, 0) (by show W2.heap[g]? = _; rw [hold2 g (by omega)]; exact hg), hcur _ (by omega)]
        rwa [List.getElem?_drop] at hj)
      (fun j hj => by rw [cell_of_row W2.drew N _ _ _ _ hb2, Array.getElem?_eq_getElem (by omega)]; rfl) (fun j hj => by simp only [World.frozen?]; show (match W2.heap[N]? with | some (.cells _ _ (lo, hi)) => _ | _ => _) = false; rw [hb2]; simp) (fun v hv => h1c v (List.mem_of_mem_drop hv))
  obtain ⟨cur2, hb3, hs2, hc2⟩ := setCells_block N 31 (cs.drop i) (i + 1) W2.drew cur1 hb2
  have hgb3 : w.grownBy (W2.drew.setCells N (i + 1) (cs.drop i)) (some g) := by
    refine gb_trans (r' := some N) (gb_drew (gb_trans (r' := some N) hgb1 ?_ (.inr fun j hj => ?_))) (setCells_gb N _ _ _) (.inr fun j hj => ?_)
    · rw [hW2]; exact setCells_gb N _ _ _
    · cases hj; omega
    · cases hj; omega
  have hfin : (W2.drew.setCells N (i + 1) (cs.drop i)).ownsRow B 31 1 (.slice (some ⟨N, 0, none⟩) (c + 1) G) (c + 1) (cs.take i ++ rv :: cs.drop i) := by
    refine ⟨by simp; omega, .inr ⟨N, G, cur2, rfl, by omega, hb3, hGn, hGm, by omega, ?_⟩⟩
    rw [Nat.mul_one]
    refine insert_cells (cur0 := ROW) (cur1 := cur1) hcl hi (by omega) hR0 (fun j hj => ?_) (by omega)
    rw [hc2 j (by omega)]
    by_cases h4 : i + 1 ≤ j ∧ j < c + 1
    · rw [if_pos (by omega), if_neg (by omega), if_pos h4, List.getElem?_drop]; congr 1; omega
    · rw [if_neg (by omega), hc1 j hj]
      by_cases h3 : j = i
      · subst h3; simp
      · rw [if_neg (by simp; omega), if_neg (by omega), if_neg h4]
  have HF := hide hfin
  have HG := hide hgb3
  have hG63 : G ≤ 9223372036854775807 := by simpa [maxLen] using hGm
  have hz2 : ¬ ((i : Int) = (c : Int)) := by omega
  have hw1 : IntKind.i64.wrap ((i : Int) + 1) = (i : Int) + 1 := by rw [IntKind.wrap_i64]; omega
  have hb0 : (0 : Int) ≤ (i : Int) + 1 := by omega
  have hb4 : (i : Int) ≤ (c : Int) + 1 := by omega
  have hb5 : (i : Int) ≤ (c : Int) := by omega
  have htn : ((i : Int) + 1).toNat = i + 1 := by omega
  have hin : i ≤ c := by omega
  have hGi : ¬ (G = i) := by omega
  have hGim : ¬ (G = i + 1) := by omega
  have hci : ¬ (c = i) := by omega
  have hz3 : (c : Int) < (c : Int) + 1 := by omega
  clear hc1 hc2 hb1 hb2 hb3 hgb1 hgb3 hfin hcell hcur ho hg htake hs1 hs2 hcs hdl hROW hRs hR0 hold hold1 hold2 hW1 hW2 hG hN hnc hroom hv
  go_enter Tryd.func28, Tryd.ntmps28
  go_wp2_with (first
    | (at_builtin; refine Lib.wpList_append_run _ rfl _ _ _ _ rfl _ _ rfl rfl _ _ (hrz _) ?_)
    | (at_builtin; refine copy_list rfl _ _ 22 rfl _ _ rfl rfl (hcpA _ _) ?_))
  go_region_law (refine copy_region rfl _ _ 22 rfl _ _ (by simp [Act.eval, Act.put]) (by simp [Act.eval, Act.put]) (hcpB _ _ _) ?_)
  go_wp2
  go_ret
  exact ⟨_, rfl, unhide HF, unhide HG⟩

/-- slices.Insert of one row. -/
theorem insert_lib (B : Nat) (a : Option Addr) (n c : Nat) (cs : List Value) (i vb : Nat) (rv : Value) (w : World) (ho : w.ownsRow B 31 1 (.slice a n c) n cs) (hB : B ≤ w.heap.size) (hi : i ≤ n) (hn : n ≤ 1048576)
    (hv : w.heap[vb]? = some (.cells #[rv] 31 (0, 0))) (hvb : some vb ≠ (Value.slice a n c).ownBlock) (h1 : rv.oneCell' = true) (h1c : ∀ v ∈ cs, v.oneCell' = true) :
    Calls Tryd.prog 28 #[.slice a n c, .int .i64 i, .slice (some ⟨vb, 0, none⟩) 1 1] w fun e w' => ∃ s', e = .returned s' ∧ w'.ownsRow B 31 1 s' (n + 1) (cs.take i ++ rv :: cs.drop i) ∧ w.grownBy w' (Value.slice a n c).ownBlock := by
  have hcl : cs.length = n := by simpa using ho.1
  by_cases hin : i = n
  · subst hin
    rw [List.take_of_length_le (by omega), List.drop_of_length_le (by omega)]
    rcases ho.2 with ⟨h0, hz⟩ | ⟨g, cap, cur, h0, hb, hg, hnc, hcm, _, _⟩
    · simp only [Value.slice.injEq] at h0
      obtain ⟨rfl, rfl, rfl⟩ := h0
      exact insert_end B none 0 0 cs vb rv w ho hB hn hv h1 (fun _ => ⟨rfl, rfl⟩) (by decide) (Nat.le_refl _)
    · simp only [Value.slice.injEq, true_and] at h0
      obtain ⟨rfl, rfl⟩ := h0
      exact insert_end B _ i c cs vb rv w ho hB hn hv h1 (fun h => by simp [Value.ownBlock] at h) (by simpa [maxLen] using hcm) hnc
  · rcases ho.2 with ⟨h0, hz⟩ | ⟨g, cap, cur, h0, hb, hg, hnc, hcm, _, _⟩
    · omega
    · simp only [Value.slice.injEq, true_and] at h0
      obtain ⟨rfl, rfl⟩ := h0
      have hne : vb ≠ g := fun e => hvb (by rw [e]; rfl)
      by_cases hroom : n + 1 ≤ c
      · exact insert_shift B g n c i cs vb rv w ho (by omega) hroom hn hv hne h1 h1c
      · exact insert_grow B g n c i cs vb rv w ho hB (by omega) (by omega) hn hv h1 h1c
end Go.Proofs.YtohiiagpfepjnaaDoor
