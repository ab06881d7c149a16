/-
  'append(nil, xs...)' and 'append(own, xs...)' of words, as steps of a walk: rows of the call's own. At most 2^20 words.
-/
import Derived.Test.YtbfkhioljpgjjaaDoorMem
import Derived.OwnWalk
namespace Go.Proofs.YtbfkhioljpgjjaaDoor
open Go.RowKit
set_option linter.unusedVariables false
set_option maxRecDepth 4000

/-- append(nil, xs...): a row of the call's own, whatever xs is. -/
theorem run_append_nil_any (t ty e : TypeId) (ht : Tryd.prog.underlying t = some (.slice e)) (i : TypeInfo) (hi : Tryd.prog.info? e = some i) (c : Nat) (w : World) :
    (Builtin.append_ #[t, t] ty #[.slice none 0 0, .slice none 0 c]).run Tryd.prog w = .ok (.slice none 0 0) w := by
  simp [Builtin.append_, run_underlying ht, sizeOf, typeInfo, hi, Builtin.lenOf, Builtin.firstCells]
theorem wpList_append_nil {w : World} {ops : Array Oper} {rest : List Oper} {o : Oper} {act : Act} {Q : Exit → Act → World → Prop} (hgd : o.guard = none) (s x : Operand)
    (ho : o.op = .call { callee := .builtin .append, args := #[s, x], argTypes := #[34, 34] }) (a : Option Addr) (n c : Nat) (xs : List Nat)
    (hs : act.eval s = .slice none 0 0) (hx : act.eval x = .slice a n c) (h : RowAt w a n xs) (hn : n ≤ 1048576)
    (hK : ∀ v' w', Own w' w.heap.size v' xs → Below w.heap.size w w' → wpList Tryd.prog ops Q rest (act.put o.dst v') w') : wpList Tryd.prog ops Q (o :: rest) act w := by
  obtain ⟨i0, hi, hz0, hz1, hz2⟩ := info_parts info_u64
  cases a with
  | none =>
    have h0 : n = 0 := by
      rcases h.2.2 with h0 | ⟨b, off, h1, _⟩
      · exact h0
      · cases h1
    subst h0
    have hxs : xs = [] := List.eq_nil_of_length_eq_zero h.1
    subst hxs
    refine wpList_plain hgd fun K hK' => ?_
    have hrun := run_append_nil_any 34 o.type 46 Tryd.underlying34 i0 hi c w
    unfold Oper.wp
    simp [execOp, ho, resolve, invoke, builtin, hs, hx, hrun, Result.andThen]
    exact hK' _ _ (hK _ _ (Own.nil _ _) (Below.refl _ _))
  | some ad =>
    refine wpList_append_own w hgd s x 34 ho w.heap.size 46 i0 (.int .u64 0) 1 8 Tryd.underlying34 hi hz0 hz1 hz2 rfl (by decide) (.slice none 0 0) 0 [] hs (World.ownsRow_nil _ _ _ _) ad n c (cellsU xs) hx
      (by rw [cellsU_length, h.1, Nat.mul_one]) h.news (cellsU_one xs) (by unfold maxLen; omega) (by omega) (Nat.le_refl _) ?_
    intro v' w' hown hgrow _
    exact hK v' w' ⟨h.2.1, by rw [h.1]; simpa using hown⟩ ((Below.refl _ _).grown hgrow (Nat.le_refl _) (fun k hk => by simp [Value.ownBlock] at hk))
/-- Nothing is added: the same slice. -/
theorem run_append_onto_none (t ty e : TypeId) (ht : Tryd.prog.underlying t = some (.slice e)) (i : TypeInfo) (hi : Tryd.prog.info? e = some i) (a : Option Addr) (n cp c : Nat) (hn : n ≤ cp) (w : World) :
    (Builtin.append_ #[t, t] ty #[.slice a n cp, .slice none 0 c]).run Tryd.prog w = .ok (.slice a n cp) w := by
  cases a <;> simp [Builtin.append_, run_underlying ht, sizeOf, typeInfo, hi, Builtin.lenOf, Builtin.firstCells, hn, storeCells]
theorem wpList_append_row {w : World} {ops : Array Oper} {rest : List Oper} {o : Oper} {act : Act} {Q : Exit → Act → World → Prop} (hgd : o.guard = none) (s x : Operand)
    (ho : o.op = .call { callee := .builtin .append, args := #[s, x], argTypes := #[34, 34] }) (B : Nat) (a0 : Option Addr) (n0 c0 : Nat) (xs : List Nat) (a : Option Addr) (n c : Nat) (ys : List Nat)
    (hs : act.eval s = .slice a0 n0 c0) (hx : act.eval x = .slice a n c) (h : Own w B (.slice a0 n0 c0) xs) (h' : RowAt w a n ys) (hB : B ≤ w.heap.size) (hn : xs.length + n ≤ 1048576)
    (hK : ∀ v' w', Own w' B v' (xs ++ ys) → Below B w w' → wpList Tryd.prog ops Q rest (act.put o.dst v') w') : wpList Tryd.prog ops Q (o :: rest) act w := by
  obtain ⟨i0, hi, hz0, hz1, hz2⟩ := info_parts info_u64
  cases a with
  | none =>
    have h0 : n = 0 := by
      rcases h'.2.2 with h0 | ⟨b, off, h1, _⟩
      · exact h0
      · cases h1
    subst h0
    have hys : ys = [] := List.eq_nil_of_length_eq_zero h'.1
    subst hys
    refine wpList_plain hgd fun K hK' => ?_
    have hrun := run_append_onto_none 34 o.type 46 Tryd.underlying34 i0 hi a0 n0 c0 c h.cap w
    unfold Oper.wp
    simp [execOp, ho, resolve, invoke, builtin, hs, hx, hrun, Result.andThen]
    exact hK' _ _ (hK _ _ (by rw [List.append_nil]; exact h) (Below.refl _ _))
  | some ad =>
    refine wpList_append_own w hgd s x 34 ho B 46 i0 (.int .u64 0) 1 8 Tryd.underlying34 hi hz0 hz1 hz2 rfl (by decide) (.slice a0 n0 c0) xs.length (cellsU xs) hs h.2 ad n c (cellsU ys) hx
      (by rw [cellsU_length, h'.1, Nat.mul_one]) h'.news (cellsU_one ys) (by unfold maxLen; omega) (by omega) hB ?_
    intro v' w' hown hgrow _
    refine hK v' w' ⟨fun z hz => ?_, ?_⟩ ((Below.refl _ _).grown hgrow hB (fun k hk => (h.2.lt k hk).1))
    · rcases List.mem_append.1 hz with hz | hz
      · exact h.1 z hz
      · exact h'.2.1 z hz
    · rw [List.length_append, h'.1, show cellsU (xs ++ ys) = cellsU xs ++ cellsU ys by simp [cellsU]]
      exact hown
end Go.Proofs.YtbfkhioljpgjjaaDoor
