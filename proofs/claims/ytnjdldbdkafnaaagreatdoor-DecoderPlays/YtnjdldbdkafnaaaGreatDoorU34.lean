/-
  Contracts of Store.refuse, overflow, keep, taker, Put.
  Contracts of Store.Put, Store.Rows.
  Which packets may be (CheckP); bools and errors' numbers that tell a proposition. No condition.
  Blocks of a text, on plain lists: how many ('kc'), what each holds ('blk'), all of them ('blocksL'), joined. No condition.
-/
import Derived.Test.YtnjdldbdkafnaaaGreatDoorU33
import Derived.Test.YtnjdldbdkafnaaaGreatDoorU6
import Derived.Test.YtnjdldbdkafnaaaGreatDoorU3
import Derived.Test.YtnjdldbdkafnaaaGreatDoorU4
namespace Go.Proofs.YtnjdldbdkafnaaaGreatDoor
open Go.RowKit Go.Sort
set_option linter.unusedVariables false
set_option linter.unusedSimpArgs false
set_option maxRecDepth 4000

theorem refuse_any (p v0 v1 : Value) (w : World) : Calls Tryz.prog 80 #[p, .agg #[v0, v1]] w fun e w' => e = .returned (.int .i64 1) ∧ Below w.heap.size w w' := by
  go_enter Tryz.func80, Tryz.ntmps80
  go_wp2
  go_ret
  exact ⟨rfl, (Below.refl _ _).alloc (Nat.le_refl _) _⟩
theorem overflow_any (g B : Nat) (k z : Int) (m : Nat) (v : Value) (rs : List RV) (ov : Bool) (v0 v1 : Value) (w : World) (h : StAt w g B k z m v rs ov) :
    Calls Tryz.prog 81 #[.pointer (some ⟨g, 0, none⟩), .agg #[v0, v1]] w fun e w' => e = .returned (.int .i64 5) ∧ StAt w' g B k z m v rs true ∧ Tu (stF g v) w w' := by
  have hb0 : Below w.heap.size w (w.alloc (.cells #[v0, v1] 29)) := (Below.refl _ _).alloc (Nat.le_refl _) _
  have hst := h.below hb0
  have HS := hide hst
  have HB0 := hide hb0
  obtain ⟨k0, k1, k2, k3, k4⟩ := hst.blk.at
  have f4 := hst.blk.frz 4
  clear h hst hb0
  go_enter Tryz.func81, Tryz.ntmps81
  go_wp2
  go_ret
  have hst := unhide HS
  have hg := gb_setCell (w.alloc (.cells #[v0, v1] 29)) g 4 (.bool true)
  have ht : Tu (stF g v) (w.alloc (.cells #[v0, v1] 29)) ((w.alloc (.cells #[v0, v1] 29)).setCell ⟨g, 4, none⟩ (.bool true)) := Tu.of_gb hg fun j _ e => .inl (Option.some.inj e).symm
  refine ⟨rfl, ⟨hst.blk.set4 _, hst.lo, ?_, ?_, hst.le, hst.most, hst.short⟩, ht.after (unhide HB0)⟩
  · refine World.ownsRow.kept hst.own hg ?_
    by_cases hv : v.ownBlock = none
    · exact .inl hv
    · refine .inr fun e => ?_
      obtain ⟨cur, hc⟩ := hst.own.blk5 e
      have := hst.blk
      unfold Bk5 at this
      rw [this] at hc
      simp only [Option.some.injEq, Obj.cells.injEq] at hc
      exact absurd hc.2.1 (by decide)
  · exact hst.rows.tu ht hst.words

/-- 'append(own, row)' as a step of a region that draws its order. -/
theorem append_stepR {ops : Array Oper} {o : Oper} {a : Act} {w : World} {K : Act → World → Prop} {Q : Exit → Act → World → Prop} {E : Prop} (hgd : o.guard = none) (s x : Operand)
    (ho : o.op = .call { callee := .builtin .append, args := #[s, x], argTypes := #[32, 32] }) (B : Nat) (v : Value) (rs : List RV) (r : RV) (hs : a.eval s = v) (hown : OwnS w B v rs) (b : Nat)
    (hx : a.eval x = .slice (some ⟨b, 0, none⟩) 1 1) (hb : w.heap[b]? = some (.cells #[.slice r.a r.n r.c, .string r.s] 29 (0, 0))) (hn : rs.length ≤ 1000000) (hB : B ≤ w.heap.size)
    (h : ∀ g cap w', OwnS w' B (.slice (some ⟨g, 0, none⟩) (rs.length + 1) cap) (rs ++ [r]) → w.grownBy w' v.ownBlock → (v.ownBlock = some g ∨ g = w.heap.size) → K (a.put o.dst (.slice (some ⟨g, 0, none⟩) (rs.length + 1) cap)) w') :
    if Region.wanted o (yielded ops a.tmps) = true then Oper.wp Tryz.prog o a w K Q else E := by
  obtain ⟨i0, hi, hz0, hz1, hz2⟩ := info_parts info_rowZ
  refine step_append_lies w hgd s x 32 ho B 29 i0 (.agg #[.slice none 0 0, .string ⟨#[]⟩]) 2 40 Tryz.underlying32 hi hz0 hz1 hz2 rfl (by decide) v rs.length (cellsR rs) hs hown ⟨b, 0, none⟩ 1 1 [.slice r.a r.n r.c, .string r.s] hx rfl
    (World.news_of_block hb) (fun u hu => by rcases List.mem_cons.1 hu with rfl | hu; · rfl
                                             · rw [List.mem_singleton.1 hu]; rfl) (by decide) (by unfold maxLen; omega) (by omega) hB _ rfl (fun g cap w' h2 h3 h4 _ => h g cap w' ?_ h3 h4)
  show w'.ownsRow B 29 2 _ (rs ++ [r]).length (cellsR (rs ++ [r]))
  rw [List.length_append, cellsR_append]
  exact h2

theorem kept_done {w W w1 w2 : World} {g B : Nat} {k z : Int} {m : Nat} {v : Value} {rs : List RV} {ov : Bool} {n : Nat} {xs : List Nat} {s : ByteArray} {a2 : Option Addr} {c2 g2 cap : Nat} (hgw : g < w.heap.size) (hb0 : Below w.heap.size w W) (hst : StAt W g B k z m v rs ov) (hd1 : Below W.heap.size W w1)
    (ho1 : Own w1 W.drew.heap.size (.slice a2 n c2) xs) (hb2 : Below w1.heap.size w1 (w1.alloc (.cells #[.slice a2 n c2, .string s] 29)))
    (ho2 : OwnS w2 B (.slice (some ⟨g2, 0, none⟩) (rs.length + 1) cap) (rs ++ [⟨a2, n, c2, xs, s⟩])) (hg2 : (w1.alloc (.cells #[.slice a2 n c2, .string s] 29)).grownBy w2 v.ownBlock) (hat : v.ownBlock = some g2 ∨ g2 = (w1.alloc (.cells #[.slice a2 n c2, .string s] 29)).heap.size)
    (hn : n ≤ 10) (hs : s.size ≤ 1000) (hl : rs.length < m) :
    ∃ v' r, (Ending.returned (.int .i64 0) : Ending) = .returned (.int .i64 0) ∧ core r = (xs, s) ∧ StAt (w2.setCell ⟨g, 3, none⟩ (.slice (some ⟨g2, 0, none⟩) (rs.length + 1) cap)) g B k z m v' (rs ++ [r]) ov ∧ Tu (stF g v) w (w2.setCell ⟨g, 3, none⟩ (.slice (some ⟨g2, 0, none⟩) (rs.length + 1) cap)) ∧
      (v'.ownBlock = v.ownBlock ∨ ∀ j, v'.ownBlock = some j → w.heap.size ≤ j) := by
  have h1 := (hst.below hd1).below hb2
  generalize hX : w1.alloc (.cells #[.slice a2 n c2, .string s] 29) = X at *
  have hne : some g ≠ v.ownBlock := fun e => by
    obtain ⟨cur, hc⟩ := h1.own.blk5 e.symm
    have := h1.blk
    unfold Bk5 at this
    rw [this] at hc
    simp only [Option.some.injEq, Obj.cells.injEq] at hc
    exact absurd hc.2.1 (by decide)
  have hk2 := h1.blk.kept hg2 hne
  have hgg : g ≠ g2 := fun e => by
    subst e
    obtain ⟨cur, hc⟩ := ho2.blk5 (g := g) rfl
    have := hk2
    unfold Bk5 at this
    rw [this] at hc
    simp only [Option.some.injEq, Obj.cells.injEq] at hc
    exact absurd hc.2.1 (by decide)
  have hgs := gb_setCell w2 g 3 (.slice (some ⟨g2, 0, none⟩) (rs.length + 1) cap)
  have ht : Tu (stF g v) X (w2.setCell ⟨g, 3, none⟩ (.slice (some ⟨g2, 0, none⟩) (rs.length + 1) cap)) :=
    (Tu.of_gb (F := stF g v) hg2 fun j _ e => .inr e).trans (Tu.of_gb (F := stF g v) hgs fun j _ e => .inl (Option.some.inj e).symm) fun _ _ h => h
  have hbx : Below w.heap.size w X := below0 (below0 hb0 hd1) hb2
  have hw1 : W.drew.heap.size = W.heap.size := rfl
  have ho1' : Own X B (.slice a2 n c2) xs := (ho1.mono (by rw [hw1]; exact hst.lob)).below hb2
  refine ⟨_, ⟨a2, n, c2, xs, s⟩, rfl, rfl, ⟨hk2.set3 _, hst.lo, ?_, ?_, ?_, hst.most, hst.short.snoc hn hs⟩, ht.after hbx, ?_⟩
  · refine World.ownsRow.kept ho2 hgs (.inr fun e => hgg ?_)
    exact (Option.some.inj e).symm
  · exact (h1.rows.tu ht h1.words).snoc (ho1'.tu ht fun j hj => by
      obtain ⟨cur, hc⟩ := ho1'.blkU hj
      exact h1.words j cur hc)
  · rw [List.length_append, List.length_singleton]; omega
  · rcases hat with e | e
    · exact .inl (by rw [e]; rfl)
    · refine .inr fun j hj => ?_
      obtain rfl : g2 = j := Option.some.inj hj
      rw [e]
      exact hbx.size

set_option maxHeartbeats 2000000 in
theorem stkeep_any (g B : Nat) (k z : Int) (m : Nat) (v : Value) (rs : List RV) (ov : Bool) (a : Option Addr) (n c : Nat) (xs : List Nat) (s : ByteArray) (w : World) (h : StAt w g B k z m v rs ov) (hr : RowAt w a n xs) (hn : n ≤ 10) (hs : s.size ≤ 1000) (hl : rs.length < m) :
    Calls Tryz.prog 82 #[.pointer (some ⟨g, 0, none⟩), .agg #[.slice a n c, .string s]] w fun e w' => ∃ v' r, e = .returned (.int .i64 0) ∧ core r = (xs, s) ∧ StAt w' g B k z m v' (rs ++ [r]) ov ∧ Tu (stF g v) w w' ∧
      (v'.ownBlock = v.ownBlock ∨ ∀ j, v'.ownBlock = some j → w.heap.size ≤ j) := by
  have hb0 : Below w.heap.size w (w.alloc (.cells #[.slice a n c, .string s] 29)) := (Below.refl _ _).alloc (Nat.le_refl _) _
  have hx := box_new w (.slice a n c) (.string s)
  have hst := h.below hb0
  have hrr := hr.below hb0
  have hgw : g < w.heap.size := h.lt
  generalize hW : w.alloc (.cells #[.slice a n c, .string s] 29) = W at *
  have HCO := hide (copyOf_any a n c xs s W.drew (hrr.below (Below.refl _ _).drew) (by omega) (by omega))
  obtain ⟨k0, k1, k2, k3, k4⟩ := hst.blk.at
  obtain ⟨c0, c1⟩ := hx
  have HB0 := hide hb0
  have HS := hide hst
  have HLN : Hid (rs.length ≤ 1000000) := hide (by have := hst.most; omega)
  have HNE : Hid (some g ≠ v.ownBlock) := hide fun e => by
    obtain ⟨cur, hc⟩ := hst.own.blk5 e.symm
    have := hst.blk
    unfold Bk5 at this
    rw [this] at hc
    simp only [Option.some.injEq, Obj.cells.injEq] at hc
    exact absurd hc.2.1 (by decide)
  have HNX : Hid (some w.heap.size ≠ v.ownBlock) := hide fun e => by
    have := (World.ownsRow.lt h.own _ e.symm).2
    omega
  have hne : g ≠ w.heap.size := Nat.ne_of_lt hgw
  have hne2 : w.heap.size ≠ g := Nat.ne_of_gt hgw
  clear h hr hst hrr hb0
  go_enter Tryz.func82, Tryz.ntmps82
  go_wp2_with fail
  go_region_law (first
    | (go_simp; go_at_call 85; refine (unhide HCO).mono ?_; rintro e w1 ⟨a2, c2, rfl, ho1, hb1⟩; have D1 := hide (show Below W.heap.size W w1 from below0 (Below.refl _ _).drew hb1); have hs1 := (unhide HS).below (unhide D1); have HS1 := hide hs1; have HO1 := hide ho1; obtain ⟨-, -, -, q3, -⟩ := hs1.blk.at; have q0 := ((unhide D1).cell (p := ⟨w.heap.size, 0, none⟩) (World.block_lt_of_cell? W _ c0)).trans c0; have q1 := ((unhide D1).cell (p := ⟨w.heap.size, 1, none⟩) (World.block_lt_of_cell? W _ c1)).trans c1; have hb2 : Below w1.heap.size w1 (w1.alloc (.cells #[.slice a2 n c2, .string s] 29)) := (Below.refl _ _).alloc (Nat.le_refl _) _; have HB2 := hide hb2; have q3' := (hb2.cell (p := ⟨g, 3, none⟩) (World.block_lt_of_cell? w1 _ q3)).trans q3; have hnw := heap_alloc_new w1 (.cells #[.slice a2 n c2, .string s] 29); have HNW := hide hnw; have HBB := hide (Nat.le_trans (unhide HS1).lob hb2.size); clear ho1 hb1 hs1 hb2 hnw)
    | (refine append_stepR (by rfl) _ _ (by rfl) B v rs ⟨a2, n, c2, xs, s⟩ (by rfl) ((unhide HS1).own.below (unhide HB2)) w1.heap.size (by rfl) (unhide HNW) (unhide HLN) (unhide HBB) ?_; intro g2 cap w2 ho2 hg2 hat; have HO2 := hide ho2; have HG2 := hide hg2; have HAT := hide hat; have hgb := (unhide HS1).below (unhide HB2); have hk2 := hgb.blk.kept hg2 (unhide HNE); obtain ⟨-, -, -, u3, -⟩ := hk2.at; have uf := hk2.frz 3; have HK2 := hide hk2; have u0 := hg2.cell (a := ⟨w.heap.size, 0, none⟩) (((unhide HB2).cell (World.block_lt_of_cell? w1 _ q0)).trans q0) (unhide HNX); have u1 := hg2.cell (a := ⟨w.heap.size, 1, none⟩) (((unhide HB2).cell (World.block_lt_of_cell? w1 _ q1)).trans q1) (unhide HNX); clear ho2 hg2 hat hgb hk2))
  all_goals go_wp2
  all_goals go_ret
  all_goals exact kept_done hgw (unhide HB0) (unhide HS) (unhide D1) (unhide HO1) (unhide HB2) (unhide HO2) (unhide HG2) (unhide HAT) hn hs hl

/-- Which method takes a row. -/
def takF (f l : Bool) : FuncId := match f, l with
  | false, _ => 80
  | true, true => 82
  | true, false => 81
set_option maxHeartbeats 1000000 in
theorem taker_any (g B : Nat) (k z : Int) (m : Nat) (v : Value) (rs : List RV) (ov : Bool) (a : Option Addr) (n c : Nat) (xs : List Nat) (s : ByteArray) (w : World) (h : StAt w g B k z m v rs ov) (hr : RowAt w a n xs) (hn : n ≤ 10) (hs : s.size ≤ 1000) :
    Calls Tryz.prog 64 #[.pointer (some ⟨g, 0, none⟩), .agg #[.slice a n c, .string s]] w fun e w' => e = .returned (.func (.func (takF (fitB k z (xs, s)) (decide (rs.length < m)))) #[.pointer (some ⟨g, 0, none⟩)] #[]) ∧ Below w.heap.size w w' := by
  have hmf : ∀ (fn : Fn) (first cap : Array Value) (w : World), (Instr.makeFunc fn first cap).run Tryz.prog w = .ok (.func fn first cap) w := fun _ _ _ _ => rfl
  have hb0 : Below w.heap.size w (w.alloc (.cells #[.slice a n c, .string s] 29)) := (Below.refl _ _).alloc (Nat.le_refl _) _
  have hst := h.below hb0
  have hle := h.le
  have HF := hide (fits_any g B k z m v rs ov a n c xs s _ hst (hr.below hb0) (by omega) (by omega))
  obtain ⟨av, cv, rfl, -, -, -⟩ := hst.at
  have HS := hide hst
  have HB0 := hide hb0
  clear h hr hst hb0
  generalize hT : takF (fitB k z (xs, s)) (decide (rs.length < m)) = T
  have HT := hide hT
  clear hT
  go_enter Tryz.func64, Tryz.ntmps64
  go_wp2_with fail
  refine (unhide HF).mono ?_
  rintro e w1 ⟨rfl, hb1⟩
  have HB1 := hide (below0 (unhide HB0) hb1)
  obtain ⟨k0, k1, k2, k3, k4⟩ := ((unhide HS).below hb1).blk.at
  clear HF HS hb1
  generalize fitB k z (xs, s) = F at *
  cases F
  · go_wp2
    go_ret
    exact ⟨by rw [← unhide HT]; rfl, unhide HB1⟩
  · by_cases hl : rs.length < m
    · have hd : ((rs.length : Int) == (m : Int)) = false := by rw [beq_eq_false_iff_ne]; omega
      go_wp2
      go_quiet (fail)
      go_wp2
      go_ret
      exact ⟨by rw [← unhide HT, decide_eq_true hl]; rfl, ⟨(unhide HB1).os, (unhide HB1).tape, (unhide HB1).output, (unhide HB1).size, (unhide HB1).block⟩⟩
    · have hd : ((rs.length : Int) == (m : Int)) = true := by rw [beq_iff_eq]; omega
      go_wp2
      go_quiet (fail)
      go_wp2
      go_ret
      exact ⟨by rw [← unhide HT, decide_eq_false hl]; rfl, ⟨(unhide HB1).os, (unhide HB1).tape, (unhide HB1).output, (unhide HB1).size, (unhide HB1).block⟩⟩
end Go.Proofs.YtnjdldbdkafnaaaGreatDoor
namespace Go.Proofs.YtnjdldbdkafnaaaGreatDoor
open Go.RowKit Go.Sort
set_option linter.unusedVariables false
set_option linter.unusedSimpArgs false
set_option maxRecDepth 4000

/-- What a put leaves. -/
def PutP (w w' : World) (g B : Nat) (k z : Int) (m : Nat) (v : Value) (rs : List RV) (ov : Bool) (x : List Nat × ByteArray) (e : Ending) : Prop :=
  e = .returned (.int .i64 (putE k z m (rs.map core) x)) ∧ ∃ v' rs', StAt w' g B k z m v' rs' (putO k z m (rs.map core) ov x) ∧ rs'.map core = putL k z m (rs.map core) x ∧ Tu (stF g v) w w' ∧ (v'.ownBlock = v.ownBlock ∨ ∀ j, v'.ownBlock = some j → w.heap.size ≤ j)
theorem put_no {k z : Int} {m : Nat} {L : List (List Nat × ByteArray)} {x : List Nat × ByteArray} (h : fitB k z x = false) : putE k z m L x = 1 ∧ putL k z m L x = L ∧ ∀ o, putO k z m L o x = o := by
  unfold putE putL putO
  simp [h]
theorem put_in {k z : Int} {m : Nat} {L : List (List Nat × ByteArray)} {x : List Nat × ByteArray} (h : fitB k z x = true) (hl : L.length < m) : putE k z m L x = 0 ∧ putL k z m L x = L ++ [x] ∧ ∀ o, putO k z m L o x = o := by
  unfold putE putL putO
  simp [h, hl]
theorem put_full {k z : Int} {m : Nat} {L : List (List Nat × ByteArray)} {x : List Nat × ByteArray} (h : fitB k z x = true) (hl : ¬ L.length < m) : putE k z m L x = 5 ∧ putL k z m L x = L ∧ ∀ o, putO k z m L o x = true := by
  unfold putE putL putO
  simp only [h, hl, if_true, if_false, and_false, true_and, not_false_eq_true]
  exact fun _ => trivial
set_option maxHeartbeats 1000000 in
theorem put_any (g B : Nat) (k z : Int) (m : Nat) (v : Value) (rs : List RV) (ov : Bool) (a : Option Addr) (n c : Nat) (xs : List Nat) (s : ByteArray) (w : World) (h : StAt w g B k z m v rs ov) (hr : RowAt w a n xs) (hn : n ≤ 10) (hs : s.size ≤ 1000) :
    Calls Tryz.prog 49 #[.pointer (some ⟨g, 0, none⟩), .agg #[.slice a n c, .string s]] w fun e w' => PutP w w' g B k z m v rs ov (xs, s) e := by
  have hb0 : Below w.heap.size w (w.alloc (.cells #[.slice a n c, .string s] 29)) := (Below.refl _ _).alloc (Nat.le_refl _) _
  have hx := box_new w (.slice a n c) (.string s)
  have hst := h.below hb0
  have HTK := hide (taker_any g B k z m v rs ov a n c xs s _ hst (hr.below hb0) hn hs)
  have HX := hide hx
  have HS := hide hst
  have HR := hide (hr.below hb0)
  have HB0 := hide hb0
  have HLM := hide (show (rs.map core).length = rs.length from List.length_map core)
  obtain ⟨c0, c1⟩ := hx
  clear h hr hst hb0
  go_enter Tryz.func49, Tryz.ntmps49
  go_wp2_with fail
  refine (unhide HTK).mono ?_
  rintro e w1 ⟨rfl, hb1⟩
  obtain ⟨d0, d1⟩ := (unhide HX).below hb1
  have HB1 := hide (below0 (unhide HB0) hb1)
  have HS1 := hide ((unhide HS).below hb1)
  have HR1 := hide ((unhide HR).below hb1)
  clear HTK HX HS HR hb1 c0 c1
  cases hf : fitB k z (xs, s)
  · rw [show takF false (decide (rs.length < m)) = 80 from rfl]
    go_wp2_with (go_at_call 80; refine (refuse_any _ _ _ _).mono ?_; rintro e w2 ⟨rfl, hb2⟩)
    go_ret
    obtain ⟨p1, p2, p3⟩ := put_no (m := m) (L := rs.map core) hf
    refine ⟨by rw [p1]; rfl, v, rs, ?_, p2.symm, Tu.of_below (below0 (unhide HB1) hb2), .inl rfl⟩
    rw [p3]
    exact (unhide HS1).below hb2
  · by_cases hl : rs.length < m
    · rw [show takF true (decide (rs.length < m)) = 82 by rw [decide_eq_true hl]; rfl]
      have HK := hide (stkeep_any g B k z m v rs ov a n c xs s w1 (unhide HS1) (unhide HR1) hn hs hl)
      go_wp2_with (go_at_call 82; refine (unhide HK).mono ?_; rintro e w2 ⟨v2, r2, rfl, hc2, hs2, ht2, hv2⟩)
      go_ret
      obtain ⟨p1, p2, p3⟩ := put_in (m := m) (L := rs.map core) hf (by rw [unhide HLM]; exact hl)
      refine ⟨by rw [p1]; rfl, v2, rs ++ [r2], ?_, ?_, ht2.after (unhide HB1), hv2.imp id fun q j hj => Nat.le_trans (unhide HB1).size (q j hj)⟩
      · rw [p3]; exact hs2
      · rw [p2, List.map_append, ← hc2]; rfl
    · rw [show takF true (decide (rs.length < m)) = 81 by rw [decide_eq_false hl]; rfl]
      have HK := hide (overflow_any g B k z m v rs ov (.slice a n c) (.string s) w1 (unhide HS1))
      go_wp2_with (go_at_call 81; refine (unhide HK).mono ?_; rintro e w2 ⟨rfl, hs2, ht2⟩)
      go_ret
      obtain ⟨p1, p2, p3⟩ := put_full (m := m) (L := rs.map core) hf (by rw [unhide HLM]; exact hl)
      refine ⟨by rw [p1]; rfl, v, rs, ?_, p2.symm, ht2.after (unhide HB1), .inl rfl⟩
      rw [p3]; exact hs2

/-- The cells of a slice that is made and then filled, row by row. -/
def fillS (n : Nat) (us : List RV) : List RV := us ++ List.replicate (n - us.length) zR
theorem fillS_zero (n : Nat) : fillS n [] = List.replicate n zR := by simp [fillS]
theorem fillS_length {n : Nat} {us : List RV} (h : us.length ≤ n) : (fillS n us).length = n := by simp [fillS]; omega
theorem fillS_all {n : Nat} {us : List RV} (h : us.length = n) : fillS n us = us := by simp [fillS, h]
theorem fillS_next {n : Nat} {us : List RV} (r : RV) (h : us.length < n) : (fillS n us).set us.length r = fillS n (us ++ [r]) := by
  unfold fillS
  rw [List.set_append_right _ _ (Nat.le_refl _), Nat.sub_self, List.length_append, List.length_singleton, List.append_assoc, show n - us.length = (n - (us.length + 1)) + 1 by omega, List.replicate_succ, List.set_cons_zero]
  rfl
theorem OwnRs.set {w : World} {B g : Nat} {rs : List RV} (h : OwnRs w B rs) (i : Nat) (u : Value) (hg : g < B) : OwnRs (w.setCell ⟨g, i, none⟩ u) B rs := fun r hr => (h r hr).other i u hg
/-- What is handed out: new rows, each as one of the store's. -/
def OutP (w w' : World) (rs : List RV) (e : Ending) : Prop := ∃ b c us, e = .returned (.slice (some ⟨b, 0, none⟩) rs.length c) ∧ OwnS w' w.heap.size (.slice (some ⟨b, 0, none⟩) rs.length c) us ∧ OwnRs w' w.heap.size us ∧ us.map core = rs.map core ∧ Below w.heap.size w w'
set_option maxHeartbeats 2000000 in
theorem rows_any (g B : Nat) (k z : Int) (m : Nat) (v : Value) (rs : List RV) (ov : Bool) (w : World) (h : StAt w g B k z m v rs ov) :
    Calls Tryz.prog 66 #[.pointer (some ⟨g, 0, none⟩)] w fun e w' => OutP w w' rs e := by
  obtain ⟨a, c, rfl, hR, -, -⟩ := h.at
  obtain ⟨k0, k1, k2, k3, k4⟩ := h.blk.at
  have hln : rs.length ≤ 256 := Nat.le_trans h.le h.most
  have hmk := make_r rs.length (by omega)
  have HM := hide (made_r w rs.length (by omega) (fillS rs.length []) (fillS_zero _))
  have hbm : Below w.heap.size w (w.alloc (.cells (madeCells #[.slice none 0 0, .string ⟨#[]⟩] (rs.length * 2)) 29)) := (Below.refl _ _).alloc (Nat.le_refl _) _
  obtain ⟨j0, j1, j2, j3, j4⟩ := (h.blk.below hbm).at
  have HBM := hide hbm
  have HZ := hide (show w.heap.size + 1 ≤ (w.alloc (.cells (madeCells #[.slice none 0 0, .string ⟨#[]⟩] (rs.length * 2)) 29)).heap.size by rw [alloc_size]; exact Nat.le_refl _)
  have Hh := hide hR
  have HSH := hide h.short
  have HCR := hide h.rows.rows
  clear h hR hbm
  go_enter Tryz.func66, Tryz.ntmps66
  go_wp2
  go_loopw [19] (fun i wr => ∃ us : List RV, us.length ≤ rs.length ∧ i = .int .i64 us.length ∧ Hid (OwnS wr w.heap.size (.slice (some ⟨w.heap.size, 0, none⟩) rs.length rs.length) (fillS rs.length us)) ∧ Hid (OwnRs wr (w.heap.size + 1) us) ∧ Hid (us.map core = (rs.take us.length).map core) ∧ Hid (Below w.heap.size w wr) ∧ Hid (w.heap.size + 1 ≤ wr.heap.size)) (fun i _ => rs.length - (intOf i).toNat)
  case atStart => exact ⟨[], Nat.zero_le _, rfl, HM, hide (OwnRs.nil _ _), hide rfl, HBM, HZ⟩
  case round =>
    obtain ⟨us, hk, rfl, HI, HU, HC, HB, HZ2⟩ := hrel
    clear HM HBM HZ
    by_cases hlt : us.length < rs.length
    · obtain ⟨b, off, rfl, hcl⟩ := ((unhide Hh).below (unhide HB)).at hlt
      obtain ⟨hc0, hc1⟩ := hcl us.length hlt
      have hlt' : (us.length : Int) < (rs.length : Int) := by omega
      have hrow := ((unhide Hh).below (unhide HB)).2.1 us.length hlt
      have hsh := unhide HSH us.length
      have HTS := hide (take_snocR rs us.length hlt)
      generalize rs.getD us.length .dflt = r at *
      have hb1 : Below wr.heap.size wr (wr.alloc (.cells #[.slice r.a r.n r.c, .string r.s] 29)) := (Below.refl _ _).alloc (Nat.le_refl _) _
      have HCO := hide (copyOf_any r.a r.n r.c r.xs r.s _ (hrow.below hb1) (by omega) (by omega))
      have HB1 := hide hb1
      obtain ⟨hx0, hx1⟩ := box_new wr (.slice r.a r.n r.c) (.string r.s)
      clear hcl hrow hb1
      go_wp2_with fail
      refine (unhide HCO).mono ?_
      rintro e w2 ⟨a2, c2, rfl, ho2, hb2⟩
      have hB2 := below0 (unhide HB1) hb2
      have hI := (unhide HI).below hB2
      have hfl := fillS_length hk
      have hcg := cellsR_get (fillS rs.length us) us.length (by omega)
      have hcell0 := hI.cellAt hcg.1
      have hcell1 := hI.cellAt hcg.2
      have hI' : w2.ownsRow w.heap.size 29 2 (.slice (some ⟨w.heap.size, 0, none⟩) rs.length rs.length) rs.length (cellsR (fillS rs.length us)) := by
        have : w2.ownsRow w.heap.size 29 2 (.slice (some ⟨w.heap.size, 0, none⟩) rs.length rs.length) (fillS rs.length us).length (cellsR (fillS rs.length us)) := hI
        rwa [hfl] at this
      have hfz0 := hI'.frozenAt (us.length * 2)
      have hfz1 := hI'.frozenAt (us.length * 2 + 1)
      have hs2 := hI.stored us.length ⟨a2, r.n, c2, r.xs, r.s⟩
      rw [fillS_next _ hlt] at hs2
      have hZ := Nat.le_trans (unhide HZ2) (Nat.le_trans (unhide HB1).size (Nat.le_refl _))
      have hu2 := (((unhide HU).below hB2).snoc (r := ⟨a2, r.n, c2, r.xs, r.s⟩) (ho2.mono hZ))
      have HU2 := hide ((hu2.set (us.length * 2) (.slice a2 r.n c2) (Nat.lt_succ_self _)).set (us.length * 2 + 1) (.string r.s) (Nat.lt_succ_self _))
      have HC2 := hide (show (us ++ [(⟨a2, r.n, c2, r.xs, r.s⟩ : RV)]).map core = (rs.take (us ++ [(⟨a2, r.n, c2, r.xs, r.s⟩ : RV)]).length).map core by
        rw [List.length_append, List.length_singleton, ← unhide HTS, List.map_append, List.map_append, unhide HC]; rfl)
      have HS := hide hs2
      have HB2 := hide (((below0 (unhide HB) hB2).setCell (p := ⟨w.heap.size, us.length * 2, none⟩) (Nat.le_refl _) (.slice a2 r.n c2)).setCell (p := ⟨w.heap.size, us.length * 2 + 1, none⟩) (Nat.le_refl _) (.string r.s))
      have HZ3 := hide (show w.heap.size + 1 ≤ ((w2.setCell ⟨w.heap.size, us.length * 2, none⟩ (.slice a2 r.n c2)).setCell ⟨w.heap.size, us.length * 2 + 1, none⟩ (.string r.s)).heap.size by
        have := hB2.size
        have := unhide HZ2
        simp
        omega)
      have HLE := hide (show (us ++ [(⟨a2, r.n, c2, r.xs, r.s⟩ : RV)]).length = us.length + 1 by rw [List.length_append]; rfl)
      clear HCO HB1 ho2 hb2 hB2 hI hI' hfl hcg hs2 hu2 hZ HI HB HU HC HZ2 HTS
      generalize (fillS rs.length us).getD us.length .dflt = zz at *
      go_wp2
      go_roundw
      case rel => exact ⟨us ++ [⟨a2, r.n, c2, r.xs, r.s⟩], by rw [unhide HLE]; omega, by rw [unhide HLE]; go_num, HS, HU2, HC2, HB2, HZ3⟩
      case measure => simp [intOf]; omega
    · have hul : us.length = rs.length := by omega
      rw [fillS_all hul] at HI
      rw [hul, List.take_length] at HC
      go_wp2
      go_ret
      exact ⟨_, _, us, rfl, unhide HI, (unhide HU).mono (Nat.le_succ _), unhide HC, unhide HB⟩
/-- How many bring something anew, of the rows' cores. -/
def rankC (L : List (List Nat × ByteArray)) : Nat := (keepL (L.map Prod.fst) L.length).length
theorem vecsL_fst (rs : List RV) : vecsL rs = (rs.map core).map Prod.fst := by
  unfold vecsL
  rw [List.map_map]; rfl
theorem rankN_core (rs : List RV) : rankN rs = rankC (rs.map core) := by
  unfold rankN rankC
  rw [vecsL_fst, List.length_map]
theorem StAt.step {w0 w w' : World} {g B : Nat} {k z : Int} {m : Nat} {v : Value} {rs : List RV} {ov : Bool} (h : StAt w g B k z m v rs ov) (hb : Below B w0 w) (ht : Tu (stF g v) w w') : Below B w0 w' := hb.trans (h.keeps ht h.lob)
theorem short_same {w w' : World} {us rs : List RV} (hu : RowsIn w us) (he : us.map core = rs.map core) (hr : RowsIn w' rs) (hs : shortR rs) : shortR us :=
  short_core hu he fun x hx => by
    obtain ⟨r, hm, rfl⟩ := List.mem_map.1 hx
    obtain ⟨i, hi, rfl⟩ := List.mem_iff_getElem.1 hm
    have h1 := (hr _ (List.getElem_mem hi)).1.1
    have h2 := hs i
    rw [List.getD_eq_getElem?_getD, List.getElem?_eq_getElem hi] at h2
    simp only [Option.getD_some] at h2
    exact ⟨by show (rs[i]).xs.length ≤ 10; rw [h1]; exact h2.1, h2.2⟩
/-- What was handed out can be read. -/
theorem OutP.at {w w' : World} {B : Nat} {rs us : List RV} {a : Option Addr} {n c : Nat} (ho : OwnS w' B (.slice a n c) us) (hr : OwnRs w' B us) (he : us.map core = rs.map core) (hi : RowsIn w rs) (hs : shortR rs) : RowsAt w' a n us ∧ RowsIn w' us ∧ shortR us ∧ n = us.length ∧ n ≤ c :=
  ⟨(ho.at' hr.rows).1, hr.rows, short_same hr.rows he hi hs, (ho.at' hr.rows).2.1, (ho.at' hr.rows).2.2.1⟩
theorem StAt.mono {w : World} {g B B' : Nat} {k z : Int} {m : Nat} {v : Value} {rs : List RV} {ov : Bool} (h : StAt w g B k z m v rs ov) (hB : B' ≤ B) : StAt w g B' k z m v rs ov :=
  ⟨h.blk, Nat.le_trans hB h.lo, h.own.mono hB, h.rows.mono hB, h.le, h.most, h.short⟩
end Go.Proofs.YtnjdldbdkafnaaaGreatDoor
namespace Go.Proofs.YtnjdldbdkafnaaaGreatDoor
set_option linter.unusedVariables false
set_option linter.unusedSimpArgs false
set_option maxRecDepth 4000

/-- A bool that tells P. -/
def TB (b : Bool) (P : Prop) : Prop := b = true ↔ P
theorem tb_ex (P : Prop) : ∃ b, TB b P := by
  by_cases h : P
  · exact ⟨true, by simp [TB, h]⟩
  · exact ⟨false, by simp [TB, h]⟩
theorem TB.no {b : Bool} {P : Prop} (h : TB b P) (hp : ¬ P) : b = false := by
  cases b
  · rfl
  · exact absurd (h.1 rfl) hp
theorem TB.yes {b : Bool} {P : Prop} (h : TB b P) (hp : P) : b = true := h.2 hp
/-- The error's number of what may be, or not. -/
def CkP (en : Nat) (P : Prop) : Prop := (P ∧ en = 0) ∨ (¬ P ∧ en = 1)
theorem CkP.yes {en : Nat} {P : Prop} (h : CkP en P) (hp : P) : en = 0 := by
  rcases h with ⟨_, h⟩ | ⟨h, _⟩
  · exact h
  · exact absurd hp h
theorem CkP.no {en : Nat} {P : Prop} (h : CkP en P) (hp : ¬ P) : en = 1 := by
  rcases h with ⟨h, _⟩ | ⟨_, h⟩
  · exact absurd h hp
  · exact h

def shapedP (k z : Int) : Prop := (1 ≤ k ∧ k ≤ 128) ∧ 1 ≤ z ∧ z ≤ 64
def boundP (o l k z h : Int) : Prop := shapedP k z ∧ (0 ≤ o ∧ o ≤ 4294967295) ∧ (0 ≤ l ∧ l ≤ k * z) ∧ 0 ≤ h ∧ h ≤ 15
def rowedP (k z : Int) (xs : List Nat) (n : Nat) : Prop := ValidP k xs ∧ 0 < cnt xs ∧ (n : Int) = z
/-- A packet that may be: n is how many bytes its text has. -/
def CheckP (o l k z h : Int) (xs : List Nat) (n : Nat) : Prop := boundP o l k z h ∧ rowedP k z xs n
theorem mul_le {k z : Int} (h : shapedP k z) : 0 ≤ k * z ∧ k * z ≤ 8192 := by
  obtain ⟨⟨h1, h2⟩, h3, h4⟩ := h
  have e1 : 0 ≤ k * z := Int.mul_nonneg (by omega) (by omega)
  have e2 : k * z ≤ 128 * z := Int.mul_le_mul_of_nonneg_right h2 (by omega)
  omega

end Go.Proofs.YtnjdldbdkafnaaaGreatDoor
namespace Go.Proofs.YtnjdldbdkafnaaaGreatDoor
open Go.RowKit
set_option linter.unusedVariables false
set_option linter.unusedSimpArgs false
set_option maxRecDepth 4000

/-- How many blocks of z bytes n bytes have. -/
def kc (n z : Nat) : Nat := if 0 < n % z ∨ n / z = 0 then n / z + 1 else n / z

/-- The block i of xs, zeros behind. -/
def pad (z : Nat) (t : List Nat) : List Nat := t ++ List.replicate (z - t.length) 0
def blk (xs : List Nat) (z i : Nat) : List Nat := pad z ((xs.drop (i * z)).take z)
/-- All blocks, one behind the other. -/
def joinL (ss : List ByteArray) : List Nat := ss.flatMap tx
theorem joinL_snoc (ss : List ByteArray) (s : ByteArray) : joinL (ss ++ [s]) = joinL ss ++ tx s := by simp [joinL]
theorem joinL_bytes (ss : List ByteArray) : bytes (joinL ss) := by
  intro x hx
  obtain ⟨s, _, hs⟩ := List.mem_flatMap.1 hx
  exact tx_bytes s x hs
theorem joinL_take (ss : List ByteArray) (k : Nat) (h : k < ss.length) : joinL (ss.take (k + 1)) = joinL (ss.take k) ++ tx (ss.getD k ByteArray.empty) := by
  rw [List.take_succ_eq_append_getElem h, joinL_snoc]
  simp [List.getD_eq_getElem?_getD, List.getElem?_eq_getElem h]
theorem joinL_le (ss : List ByteArray) (k : Nat) : (joinL (ss.take k)).length ≤ (joinL ss).length := by
  conv => rhs; rw [← List.take_append_drop k ss]
  unfold joinL
  rw [List.flatMap_append, List.length_append]
  omega
end Go.Proofs.YtnjdldbdkafnaaaGreatDoor
