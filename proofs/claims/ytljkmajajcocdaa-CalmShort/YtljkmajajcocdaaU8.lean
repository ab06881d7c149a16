/-
  Memory in which one block is turned ('grownBy' with that block), rows beside it, and 'copy' as a step of a walk. No condition.
  Memory of which only some blocks have turned ('Tu'). No condition.
  A block of many cells ('BkA'). No condition.
-/
import Derived.Test.YtljkmajajcocdaaU1
import Derived.Laws.IdiomCopy
import Derived.Laws.NewBlocks
import Derived.Deep.RegionLaw
namespace Go.Proofs.Ytljkmajajcocdaa
open Go.RowKit
set_option linter.unusedVariables false
set_option linter.unusedSimpArgs false
set_option maxRecDepth 4000

theorem gb_refl (w : World) (r : Option Nat) : w.grownBy w r := ⟨rfl, rfl, rfl, Nat.le_refl _, fun _ _ _ => rfl⟩
theorem gb_of_below {w w' : World} (h : Below w.heap.size w w') (r : Option Nat) : w.grownBy w' r := ⟨h.os, h.tape, h.output, h.size, fun k hk _ => h.block k hk⟩
theorem gb_trans {w w1 w2 : World} {r r' : Option Nat} (h : w.grownBy w1 r) (k : w1.grownBy w2 r') (hr : r' = r ∨ ∀ j, r' = some j → w.heap.size ≤ j) : w.grownBy w2 r := by
  refine ⟨k.os.trans h.os, k.tape.trans h.tape, k.output.trans h.output, Nat.le_trans h.size k.size, fun j hj hne => ?_⟩
  refine (k.block j (Nat.lt_of_lt_of_le hj h.size) fun e => ?_).trans (h.block j hj hne)
  rcases hr with hr | hr
  · exact hne (e.trans hr)
  · have := hr j e.symm; omega
theorem gb_below {w w' : World} {r : Option Nat} (h : w.grownBy w' r) {B : Nat} (hB : B ≤ w.heap.size) (hr : ∀ k, r = some k → B ≤ k) : Below B w w' := (Below.refl B w).grown h hB hr
theorem gb_setCell (w : World) (g i : Nat) (u : Value) : w.grownBy (w.setCell ⟨g, i, none⟩ u) (some g) :=
  ⟨rfl, rfl, rfl, by simp [World.setCell], fun k _ hk => Below.heap_setCell _ _ _ _ (fun e => hk (by rw [e]))⟩
theorem gb_drew {w w' : World} {r : Option Nat} (h : w.grownBy w' r) : w.grownBy w'.drew r := ⟨h.os, h.tape, h.output, h.size, h.block⟩
theorem Own.kept {w w' : World} {B : Nat} {v : Value} {xs : List Nat} {row : Option Nat} (h : Own w B v xs) (hg : w.grownBy w' row) (hd : v.ownBlock = none ∨ v.ownBlock ≠ row) : Own w' B v xs := ⟨h.1, h.2.kept hg hd⟩
theorem Own.lt {w : World} {B : Nat} {v : Value} {xs : List Nat} (h : Own w B v xs) {k : Nat} (hk : v.ownBlock = some k) : B ≤ k ∧ k < w.heap.size := h.2.lt k hk
theorem RowAt.kept {w w' : World} {a : Option Addr} {n : Nat} {xs : List Nat} {row : Option Nat} (h : RowAt w a n xs) (hg : w.grownBy w' row) (hd : n = 0 ∨ ∀ ad, a = some ad → some ad.block ≠ row) : RowAt w' a n xs := by
  refine ⟨h.1, h.2.1, ?_⟩
  rcases h.2.2 with h0 | ⟨b, off, rfl, hc⟩
  · exact .inl h0
  · rcases hd with h0 | hd
    · exact .inl h0
    · exact .inr ⟨b, off, rfl, fun i hi => hg.cell (hc i hi) (hd ⟨b, off, none⟩ rfl)⟩
theorem RowAt.lt {w : World} {a : Option Addr} {n : Nat} {xs : List Nat} (h : RowAt w a n xs) : n = 0 ∨ ∀ ad, a = some ad → ad.block < w.heap.size := by
  rcases h.2.2 with h0 | ⟨b, off, rfl, hc⟩
  · exact .inl h0
  · by_cases h0 : n = 0
    · exact .inl h0
    · right
      intro ad e
      simp only [Option.some.injEq] at e
      subst e
      exact World.block_lt_of_cell? w _ (hc 0 (by omega))
theorem copy_step {o : Oper} {a : Act} {w : World} {K : Act → World → Prop} {Q : Exit → Act → World → Prop} (d s : Operand) (t : TypeId)
    (ho : o.op = .call { callee := .builtin .copy, args := #[d, s], argTypes := #[t, t] }) (v u : Value) (hd : a.eval d = v) (hs : a.eval s = u) {v' : Value} {w' : World}
    (hr : (Builtin.copy_ #[t, t] o.type #[v, u]).run Try.prog w = .ok v' w') (h : K (a.put o.dst v') w') : o.wp Try.prog a w K Q := by
  unfold Oper.wp execOp
  simp only [ho, resolve, invoke, builtin, Sem.run_bind, Sem.run_pure, Result.andThen_ok, List.map_toArray, List.map_cons, List.map_nil, hd, hs, hr]
  exact h
theorem copy_list {w : World} {ops : Array Oper} {rest : List Oper} {o : Oper} {a : Act} {Q : Exit → Act → World → Prop} (hgd : o.guard = none) (d s : Operand) (t : TypeId)
    (ho : o.op = .call { callee := .builtin .copy, args := #[d, s], argTypes := #[t, t] }) (v u : Value) (hd : a.eval d = v) (hs : a.eval s = u) {v' : Value} {w' : World}
    (hr : (Builtin.copy_ #[t, t] o.type #[v, u]).run Try.prog w = .ok v' w') (h : wpList Try.prog ops Q rest (a.put o.dst v') w') : wpList Try.prog ops Q (o :: rest) a w :=
  wpList_plain hgd fun _ hK => copy_step d s t ho v u hd hs hr (hK _ _ h)
theorem copy_region {ops : Array Oper} {o : Oper} {a : Act} {w : World} {K : Act → World → Prop} {Q : Exit → Act → World → Prop} {E : Prop} (hg : o.guard = none) (d s : Operand) (t : TypeId)
    (ho : o.op = .call { callee := .builtin .copy, args := #[d, s], argTypes := #[t, t] }) (v u : Value) (hd : a.eval d = v) (hs : a.eval s = u) {v' : Value} {w' : World}
    (hr : (Builtin.copy_ #[t, t] o.type #[v, u]).run Try.prog w = .ok v' w') (h : K (a.put o.dst v') w') :
    if Region.wanted o (yielded ops a.tmps) = true then Oper.wp Try.prog o a w K Q else E := by
  rw [if_pos (by simp [Region.wanted, hg])]
  exact copy_step d s t ho v u hd hs hr h

/-- A block of one's own behind a row of stores. -/
theorem setCells_block (g : Nat) (e : TypeId) : ∀ (vs : List Value) (o : Nat) (w : World) (cur : Array Value), w.heap[g]? = some (.cells cur e (0, 0)) →
    ∃ cur', (w.setCells g o vs).heap[g]? = some (.cells cur' e (0, 0)) ∧ cur'.size = cur.size ∧ ∀ j, j < cur.size → cur'[j]? = if o ≤ j ∧ j < o + vs.length then vs[j - o]? else cur[j]?
  | [], o, w, cur, h => ⟨cur, h, rfl, fun j hj => by rw [if_neg (by simp only [List.length_nil]; omega)]⟩
  | v :: r, o, w, cur, h => by
    obtain ⟨cur', h1, h2, h3⟩ := setCells_block g e r (o + 1) (w.setCell ⟨g, o, none⟩ v) (cur.setIfInBounds o v) (heap_setCell_same w g o cur e v h)
    refine ⟨cur', h1, by simpa using h2, fun j hj => ?_⟩
    rw [h3 j (by simpa using hj)]
    by_cases hjo : j = o
    · subst hjo
      rw [if_neg (by omega), if_pos (by simp)]
      simp [hj]
    · by_cases hin : o + 1 ≤ j ∧ j < o + 1 + r.length
      · rw [if_pos hin, if_pos (by simp; omega)]
        rw [show j - o = (j - (o + 1)) + 1 by omega, List.getElem?_cons_succ]
      · rw [if_neg hin, if_neg (by simp; omega)]
        rw [Array.getElem?_setIfInBounds_ne (by omega)]
theorem setCells_gb (g : Nat) : ∀ (vs : List Value) (o : Nat) (w : World), w.grownBy (w.setCells g o vs) (some g)
  | [], o, w => gb_refl _ _
  | v :: r, o, w => gb_trans (gb_setCell w g o v) (setCells_gb g r (o + 1) _) (.inl rfl)
end Go.Proofs.Ytljkmajajcocdaa
namespace Go.Proofs.Ytljkmajajcocdaa
open Go.RowKit
set_option linter.unusedVariables false
set_option linter.unusedSimpArgs false
set_option maxRecDepth 4000

/-- Nothing that was there has turned but blocks of F. -/
structure Tu (F : Nat → Prop) (w w' : World) : Prop where
  os : w'.os = w.os
  tape : w'.tape = w.tape
  output : w'.output = w.output
  size : w.heap.size ≤ w'.heap.size
  block : ∀ k, k < w.heap.size → ¬ F k → w'.heap[k]? = w.heap[k]?
theorem Tu.refl (F : Nat → Prop) (w : World) : Tu F w w := ⟨rfl, rfl, rfl, Nat.le_refl _, fun _ _ _ => rfl⟩
theorem Tu.trans {F G : Nat → Prop} {w w1 w2 : World} (h : Tu F w w1) (k : Tu G w1 w2) (hr : ∀ j, j < w.heap.size → G j → F j) : Tu F w w2 :=
  ⟨k.os.trans h.os, k.tape.trans h.tape, k.output.trans h.output, Nat.le_trans h.size k.size, fun j hj hn => (k.block j (Nat.lt_of_lt_of_le hj h.size) fun hg => hn (hr j hj hg)).trans (h.block j hj hn)⟩
theorem Tu.of_below {F : Nat → Prop} {w w' : World} (h : Below w.heap.size w w') : Tu F w w' := ⟨h.os, h.tape, h.output, h.size, fun j hj _ => h.block j hj⟩
theorem Tu.of_gb {F : Nat → Prop} {w w' : World} {r : Option Nat} (h : w.grownBy w' r) (hr : ∀ j, j < w.heap.size → r = some j → F j) : Tu F w w' :=
  ⟨h.os, h.tape, h.output, h.size, fun j hj hn => h.block j hj fun e => hn (hr j hj e.symm)⟩
theorem Tu.below {F : Nat → Prop} {w w' : World} (h : Tu F w w') {B : Nat} (hB : B ≤ w.heap.size) (hF : ∀ j, j < B → ¬ F j) : Below B w w' :=
  ⟨h.os, h.tape, h.output, h.size, fun j hj => h.block j (Nat.lt_of_lt_of_le hj hB) (hF j hj)⟩
theorem Tu.then {F : Nat → Prop} {w w1 w2 : World} (h : Tu F w w1) (k : Below w1.heap.size w1 w2) : Tu F w w2 := h.trans (Tu.of_below (F := F) k) fun _ _ h => h
end Go.Proofs.Ytljkmajajcocdaa
namespace Go.Proofs.Ytljkmajajcocdaa
open Go.RowKit
set_option linter.unusedVariables false
set_option linter.unusedSimpArgs false
set_option maxRecDepth 4000

/-- A block of cells, none of them frozen. -/
def BkA (T : TypeId) (w : World) (g : Nat) (cs : List Value) : Prop := w.heap[g]? = some (.cells cs.toArray T (0, 0))
theorem bkA_new (T : TypeId) (w : World) (cs : List Value) : BkA T (w.alloc (.cells cs.toArray T)) w.heap.size cs := by
  show (w.heap.push _)[w.heap.size]? = _
  simp
theorem BkA.lt {T : TypeId} {w : World} {g : Nat} {cs : List Value} (h : BkA T w g cs) : g < w.heap.size := (Array.getElem?_eq_some_iff.1 h).1
theorem BkA.belowB {T : TypeId} {w w' : World} {g B : Nat} {cs : List Value} (h : BkA T w g cs) (hb : Below B w w') (hg : g < B) : BkA T w' g cs := (hb.block g hg).trans h
theorem BkA.below {T : TypeId} {w w' : World} {g : Nat} {cs : List Value} (h : BkA T w g cs) (hb : Below w.heap.size w w') : BkA T w' g cs := h.belowB hb h.lt
theorem BkA.at {T : TypeId} {w : World} {g : Nat} {cs : List Value} (h : BkA T w g cs) (i : Nat) {v : Value} (hv : cs[i]? = some v) : w.cell? ⟨g, i, none⟩ = some v := by
  unfold BkA at h
  rw [cell_of_row w g _ _ _ _ h]
  simpa using hv
theorem BkA.frz {T : TypeId} {w : World} {g : Nat} {cs : List Value} (h : BkA T w g cs) (i : Nat) : w.frozen? ⟨g, i, none⟩ = false := by
  unfold BkA at h
  simp [World.frozen?, h]
theorem BkA.set {T : TypeId} {w : World} {g : Nat} {cs : List Value} (h : BkA T w g cs) (i : Nat) (v : Value) : BkA T (w.setCell ⟨g, i, none⟩ v) g (cs.set i v) := by
  have := heap_setCell_same w g i _ _ v h
  rw [List.setIfInBounds_toArray] at this
  exact this
theorem BkA.kept {T : TypeId} {w w' : World} {g : Nat} {cs : List Value} {row : Option Nat} (h : BkA T w g cs) (hg : w.grownBy w' row) (hne : some g ≠ row) : BkA T w' g cs := (hg.block g h.lt hne).trans h
theorem BkA.ne {T T' : TypeId} {w : World} {g g' : Nat} {cs : List Value} {cur : Array Value} {fz : Nat × Nat} (h : BkA T w g cs) (h' : w.heap[g']? = some (.cells cur T' fz)) (hT : T ≠ T') : g ≠ g' := fun e => by
  subst e
  unfold BkA at h
  rw [h] at h'
  simp only [Option.some.injEq, Obj.cells.injEq] at h'
  exact hT h'.2.1
end Go.Proofs.Ytljkmajajcocdaa
