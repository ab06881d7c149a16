/-
  Contracts of Store.refuse, overflow, keep, taker, Put.
-/
import Derived.Test.YtnjdldbdkafnaaaGreatDoorU33
namespace Go.Proofs.YtnjdldbdkafnaaaGreatDoor
open Go.RowKit Go.Sort
set_option linter.unusedVariables false
set_option linter.unusedSimpArgs false
set_option maxRecDepth 4000

theorem refuse_any (p v0 v1 : Value) (w : World) : Calls Tryz.prog 80 #[p, .agg #[v0, v1]] w fun e w' => e = .returned (.int .i64 1) ∧ Below w.heap.size w w' := by
  go_enter Tryz.func80, Tryz.ntmps80
  go_wp2
  go_ret
  exact ⟨rfl, (Below.refl _ _).alloc (Nat.le_refl _) _⟩
theorem overflow_any (g B : Nat) (k z : Int) (m : Nat) (v : Value) (rs : List RV) (ov : Bool) (v0 v1 : Value) (w : World) (h : StAt w g B k z m v rs ov) :
    Calls Tryz.prog 81 #[.pointer (some ⟨g, 0, none⟩), .agg #[v0, v1]] w fun e w' => e = .returned (.int .i64 5) ∧ StAt w' g B k z m v rs true ∧ Tu (stF g v) w w' := by
  have hb0 : Below w.heap.size w (w.alloc (.cells #[v0, v1] 29)) := (Below.refl _ _).alloc (Nat.le_refl _) _
  have hst := h.below hb0
  have HS := hide hst
  have HB0 := hide hb0
  obtain ⟨k0, k1, k2, k3, k4⟩ := hst.blk.at
  have f4 := hst.blk.frz 4
  clear h hst hb0
  go_enter Tryz.func81, Tryz.ntmps81
  go_wp2
  go_ret
  have hst := unhide HS
  have hg := gb_setCell (w.alloc (.cells #[v0, v1] 29)) g 4 (.bool true)
  have ht : Tu (stF g v) (w.alloc (.cells #[v0, v1] 29)) ((w.alloc (.cells #[v0, v1] 29)).setCell ⟨g, 4, none⟩ (.bool true)) := Tu.of_gb hg fun j _ e => .inl (Option.some.inj e).symm
  refine ⟨rfl, ⟨hst.blk.set4 _, hst.lo, ?_, ?_, hst.le, hst.most, hst.short⟩, ht.after (unhide HB0)⟩
  · refine World.ownsRow.kept hst.own hg ?_
    by_cases hv : v.ownBlock = none
    · exact .inl hv
    · refine .inr fun e => ?_
      obtain ⟨cur, hc⟩ := hst.own.blk5 e
      have := hst.blk
      unfold Bk5 at this
      rw [this] at hc
      simp only [Option.some.injEq, Obj.cells.injEq] at hc
      exact absurd hc.2.1 (by decide)
  · exact hst.rows.tu ht hst.words

/-- 'append(own, row)' as a step of a region that draws its order. -/
theorem append_stepR {ops : Array Oper} {o : Oper} {a : Act} {w : World} {K : Act → World → Prop} {Q : Exit → Act → World → Prop} {E : Prop} (hgd : o.guard = none) (s x : Operand)
    (ho : o.op = .call { callee := .builtin .append, args := #[s, x], argTypes := #[32, 32] }) (B : Nat) (v : Value) (rs : List RV) (r : RV) (hs : a.eval s = v) (hown : OwnS w B v rs) (b : Nat)
    (hx : a.eval x = .slice (some ⟨b, 0, none⟩) 1 1) (hb : w.heap[b]? = some (.cells #[.slice r.a r.n r.c, .string r.s] 29 (0, 0))) (hn : rs.length ≤ 1000000) (hB : B ≤ w.heap.size)
    (h : ∀ g cap w', OwnS w' B (.slice (some ⟨g, 0, none⟩) (rs.length + 1) cap) (rs ++ [r]) → w.grownBy w' v.ownBlock → (v.ownBlock = some g ∨ g = w.heap.size) → K (a.put o.dst (.slice (some ⟨g, 0, none⟩) (rs.length + 1) cap)) w') :
    if Region.wanted o (yielded ops a.tmps) = true then Oper.wp Tryz.prog o a w K Q else E := by
  obtain ⟨i0, hi, hz0, hz1, hz2⟩ := info_parts info_rowZ
  refine step_append_lies w hgd s x 32 ho B 29 i0 (.agg #[.slice none 0 0, .string ⟨#[]⟩]) 2 40 Tryz.underlying32 hi hz0 hz1 hz2 rfl (by decide) v rs.length (cellsR rs) hs hown ⟨b, 0, none⟩ 1 1 [.slice r.a r.n r.c, .string r.s] hx rfl
    (World.news_of_block hb) (fun u hu => by rcases List.mem_cons.1 hu with rfl | hu; · rfl
                                             · rw [List.mem_singleton.1 hu]; rfl) (by decide) (by unfold maxLen; omega) (by omega) hB _ rfl (fun g cap w' h2 h3 h4 _ => h g cap w' ?_ h3 h4)
  show w'.ownsRow B 29 2 _ (rs ++ [r]).length (cellsR (rs ++ [r]))
  rw [List.length_append, cellsR_append]
  exact h2

theorem kept_done {w W w1 w2 : World} {g B : Nat} {k z : Int} {m : Nat} {v : Value} {rs : List RV} {ov : Bool} {n : Nat} {xs : List Nat} {s : ByteArray} {a2 : Option Addr} {c2 g2 cap : Nat} (hgw : g < w.heap.size) (hb0 : Below w.heap.size w W) (hst : StAt W g B k z m v rs ov) (hd1 : Below W.heap.size W w1)
    (ho1 : Own w1 W.drew.heap.size (.slice a2 n c2) xs) (hb2 : Below w1.heap.size w1 (w1.alloc (.cells #[.slice a2 n c2, .string s] 29)))
    (ho2 : OwnS w2 B (.slice (some ⟨g2, 0, none⟩) (rs.length + 1) cap) (rs ++ [⟨a2, n, c2, xs, s⟩])) (hg2 : (w1.alloc (.cells #[.slice a2 n c2, .string s] 29)).grownBy w2 v.ownBlock) (hat : v.ownBlock = some g2 ∨ g2 = (w1.alloc (.cells #[.slice a2 n c2, .string s] 29)).heap.size)
    (hn : n ≤ 10) (hs : s.size ≤ 1000) (hl : rs.length < m) :
    ∃ v' r, (Ending.returned (.int .i64 0) : Ending) = .returned (.int .i64 0) ∧ core r = (xs, s) ∧ StAt (w2.setCell ⟨g, 3, none⟩ (.slice (some ⟨g2, 0, none⟩) (rs.length + 1) cap)) g B k z m v' (rs ++ [r]) ov ∧ Tu (stF g v) w (w2.setCell ⟨g, 3, none⟩ (.slice (some ⟨g2, 0, none⟩) (rs.length + 1) cap)) ∧
      (v'.ownBlock = v.ownBlock ∨ ∀ j, v'.ownBlock = some j → w.heap.size ≤ j) := by
  have h1 := (hst.below hd1).below hb2
  generalize hX : w1.alloc (.cells #[.slice a2 n c2, .string s] 29) = X at *
  have hne : some g ≠ v.ownBlock := fun e => by
    obtain ⟨cur, hc⟩ := h1.own.blk5 e.symm
    have := h1.blk
    unfold Bk5 at this
    rw [this] at hc
    simp only [Option.some.injEq, Obj.cells.injEq] at hc
    exact absurd hc.2.1 (by decide)
  have hk2 := h1.blk.kept hg2 hne
  have hgg : g ≠ g2 := fun e => by
    subst e
    obtain ⟨cur, hc⟩ := ho2.blk5 (g := g) rfl
    have := hk2
    unfold Bk5 at this
    rw [this] at hc
    simp only [Option.some.injEq, Obj.cells.injEq] at hc
    exact absurd hc.2.1 (by decide)
  have hgs := gb_setCell w2 g 3 (.slice (some ⟨g2, 0, none⟩) (rs.length + 1) cap)
  have ht : Tu (stF g v) X (w2.setCell ⟨g, 3, none⟩ (.slice (some ⟨g2, 0, none⟩) (rs.length + 1) cap)) :=
    (Tu.of_gb (F := stF g v) hg2 fun j _ e => .inr e).trans (Tu.of_gb (F := stF g v) hgs fun j _ e => .inl (Option.some.inj e).symm) fun _ _ h => h
  have hbx : Below w.heap.size w X := below0 (below0 hb0 hd1) hb2
  have hw1 : W.drew.heap.size = W.heap.size := rfl
  have ho1' : Own X B (.slice a2 n c2) xs := (ho1.mono (by rw [hw1]; exact hst.lob)).below hb2
  refine ⟨_, ⟨a2, n, c2, xs, s⟩, rfl, rfl, ⟨hk2.set3 _, hst.lo, ?_, ?_, ?_, hst.most, hst.short.snoc hn hs⟩, ht.after hbx, ?_⟩
  · refine World.ownsRow.kept ho2 hgs (.inr fun e => hgg ?_)
    exact (Option.some.inj e).symm
  · exact (h1.rows.tu ht h1.words).snoc (ho1'.tu ht fun j hj => by
      obtain ⟨cur, hc⟩ := ho1'.blkU hj
      exact h1.words j cur hc)
  · rw [List.length_append, List.length_singleton]; omega
  · rcases hat with e | e
    · exact .inl (by rw [e]; rfl)
    · refine .inr fun j hj => ?_
      obtain rfl : g2 = j := Option.some.inj hj
      rw [e]
      exact hbx.size

set_option maxHeartbeats 2000000 in
theorem stkeep_any (g B : Nat) (k z : Int) (m : Nat) (v : Value) (rs : List RV) (ov : Bool) (a : Option Addr) (n c : Nat) (xs : List Nat) (s : ByteArray) (w : World) (h : StAt w g B k z m v rs ov) (hr : RowAt w a n xs) (hn : n ≤ 10) (hs : s.size ≤ 1000) (hl : rs.length < m) :
    Calls Tryz.prog 82 #[.pointer (some ⟨g, 0, none⟩), .agg #[.slice a n c, .string s]] w fun e w' => ∃ v' r, e = .returned (.int .i64 0) ∧ core r = (xs, s) ∧ StAt w' g B k z m v' (rs ++ [r]) ov ∧ Tu (stF g v) w w' ∧
      (v'.ownBlock = v.ownBlock ∨ ∀ j, v'.ownBlock = some j → w.heap.size ≤ j) := by
  have hb0 : Below w.heap.size w (w.alloc (.cells #[.slice a n c, .string s] 29)) := (Below.refl _ _).alloc (Nat.le_refl _) _
  have hx := box_new w (.slice a n c) (.string s)
  have hst := h.below hb0
  have hrr := hr.below hb0
  have hgw : g < w.heap.size := h.lt
  generalize hW : w.alloc (.cells #[.slice a n c, .string s] 29) = W at *
  have HCO := hide (copyOf_any a n c xs s W.drew (hrr.below (Below.refl _ _).drew) (by omega) (by omega))
  obtain ⟨k0, k1, k2, k3, k4⟩ := hst.blk.at
  obtain ⟨c0, c1⟩ := hx
  have HB0 := hide hb0
  have HS := hide hst
  have HLN : Hid (rs.length ≤ 1000000) := hide (by have := hst.most; omega)
  have HNE : Hid (some g ≠ v.ownBlock) := hide fun e => by
    obtain ⟨cur, hc⟩ := hst.own.blk5 e.symm
    have := hst.blk
    unfold Bk5 at this
    rw [this] at hc
    simp only [Option.some.injEq, Obj.cells.injEq] at hc
    exact absurd hc.2.1 (by decide)
  have HNX : Hid (some w.heap.size ≠ v.ownBlock) := hide fun e => by
    have := (World.ownsRow.lt h.own _ e.symm).2
    omega
  have hne : g ≠ w.heap.size := Nat.ne_of_lt hgw
  have hne2 : w.heap.size ≠ g := Nat.ne_of_gt hgw
  clear h hr hst hrr hb0
  go_enter Tryz.func82, Tryz.ntmps82
  go_wp2_with fail
  go_region_law (first
    | (go_simp; go_at_call 85; refine (unhide HCO).mono ?_; rintro e w1 ⟨a2, c2, rfl, ho1, hb1⟩; have D1 := hide (show Below W.heap.size W w1 from below0 (Below.refl _ _).drew hb1); have hs1 := (unhide HS).below (unhide D1); have HS1 := hide hs1; have HO1 := hide ho1; obtain ⟨-, -, -, q3, -⟩ := hs1.blk.at; have q0 := ((unhide D1).cell (p := ⟨w.heap.size, 0, none⟩) (World.block_lt_of_cell? W _ c0)).trans c0; have q1 := ((unhide D1).cell (p := ⟨w.heap.size, 1, none⟩) (World.block_lt_of_cell? W _ c1)).trans c1; have hb2 : Below w1.heap.size w1 (w1.alloc (.cells #[.slice a2 n c2, .string s] 29)) := (Below.refl _ _).alloc (Nat.le_refl _) _; have HB2 := hide hb2; have q3' := (hb2.cell (p := ⟨g, 3, none⟩) (World.block_lt_of_cell? w1 _ q3)).trans q3; have hnw := heap_alloc_new w1 (.cells #[.slice a2 n c2, .string s] 29); have HNW := hide hnw; have HBB := hide (Nat.le_trans (unhide HS1).lob hb2.size); clear ho1 hb1 hs1 hb2 hnw)
    | (refine append_stepR (by rfl) _ _ (by rfl) B v rs ⟨a2, n, c2, xs, s⟩ (by rfl) ((unhide HS1).own.below (unhide HB2)) w1.heap.size (by rfl) (unhide HNW) (unhide HLN) (unhide HBB) ?_; intro g2 cap w2 ho2 hg2 hat; have HO2 := hide ho2; have HG2 := hide hg2; have HAT := hide hat; have hgb := (unhide HS1).below (unhide HB2); have hk2 := hgb.blk.kept hg2 (unhide HNE); obtain ⟨-, -, -, u3, -⟩ := hk2.at; have uf := hk2.frz 3; have HK2 := hide hk2; have u0 := hg2.cell (a := ⟨w.heap.size, 0, none⟩) (((unhide HB2).cell (World.block_lt_of_cell? w1 _ q0)).trans q0) (unhide HNX); have u1 := hg2.cell (a := ⟨w.heap.size, 1, none⟩) (((unhide HB2).cell (World.block_lt_of_cell? w1 _ q1)).trans q1) (unhide HNX); clear ho2 hg2 hat hgb hk2))
  all_goals go_wp2
  all_goals go_ret
  all_goals exact kept_done hgw (unhide HB0) (unhide HS) (unhide D1) (unhide HO1) (unhide HB2) (unhide HO2) (unhide HG2) (unhide HAT) hn hs hl

/-- Which method takes a row. -/
def takF (f l : Bool) : FuncId := match f, l with
  | false, _ => 80
  | true, true => 82
  | true, false => 81
set_option maxHeartbeats 1000000 in
theorem taker_any (g B : Nat) (k z : Int) (m : Nat) (v : Value) (rs : List RV) (ov : Bool) (a : Option Addr) (n c : Nat) (xs : List Nat) (s : ByteArray) (w : World) (h : StAt w g B k z m v rs ov) (hr : RowAt w a n xs) (hn : n ≤ 10) (hs : s.size ≤ 1000) :
    Calls Tryz.prog 64 #[.pointer (some ⟨g, 0, none⟩), .agg #[.slice a n c, .string s]] w fun e w' => e = .returned (.func (.func (takF (fitB k z (xs, s)) (decide (rs.length < m)))) #[.pointer (some ⟨g, 0, none⟩)] #[]) ∧ Below w.heap.size w w' := by
  have hmf : ∀ (fn : Fn) (first cap : Array Value) (w : World), (Instr.makeFunc fn first cap).run Tryz.prog w = .ok (.func fn first cap) w := fun _ _ _ _ => rfl
  have hb0 : Below w.heap.size w (w.alloc (.cells #[.slice a n c, .string s] 29)) := (Below.refl _ _).alloc (Nat.le_refl _) _
  have hst := h.below hb0
  have hle := h.le
  have HF := hide (fits_any g B k z m v rs ov a n c xs s _ hst (hr.below hb0) (by omega) (by omega))
  obtain ⟨av, cv, rfl, -, -, -⟩ := hst.at
  have HS := hide hst
  have HB0 := hide hb0
  clear h hr hst hb0
  generalize hT : takF (fitB k z (xs, s)) (decide (rs.length < m)) = T
  have HT := hide hT
  clear hT
  go_enter Tryz.func64, Tryz.ntmps64
  go_wp2_with fail
  refine (unhide HF).mono ?_
  rintro e w1 ⟨rfl, hb1⟩
  have HB1 := hide (below0 (unhide HB0) hb1)
  obtain ⟨k0, k1, k2, k3, k4⟩ := ((unhide HS).below hb1).blk.at
  clear HF HS hb1
  generalize fitB k z (xs, s) = F at *
  cases F
  · go_wp2
    go_ret
    exact ⟨by rw [← unhide HT]; rfl, unhide HB1⟩
  · by_cases hl : rs.length < m
    · have hd : ((rs.length : Int) == (m : Int)) = false := by rw [beq_eq_false_iff_ne]; omega
      go_wp2
      go_quiet (fail)
      go_wp2
      go_ret
      exact ⟨by rw [← unhide HT, decide_eq_true hl]; rfl, ⟨(unhide HB1).os, (unhide HB1).tape, (unhide HB1).output, (unhide HB1).size, (unhide HB1).block⟩⟩
    · have hd : ((rs.length : Int) == (m : Int)) = true := by rw [beq_iff_eq]; omega
      go_wp2
      go_quiet (fail)
      go_wp2
      go_ret
      exact ⟨by rw [← unhide HT, decide_eq_false hl]; rfl, ⟨(unhide HB1).os, (unhide HB1).tape, (unhide HB1).output, (unhide HB1).size, (unhide HB1).block⟩⟩
end Go.Proofs.YtnjdldbdkafnaaaGreatDoor
