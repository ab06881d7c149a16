/-
  'append([]byte(s), make([]byte, m)...)'; 'string(b[i:j])'. For texts of at most 2^20 bytes.
-/
import Derived.Test.YtmegeoiilpciiaaTC
import Derived.Laws.AppendOwn
namespace Go.Proofs.Ytmegeoiilpciiaa
open Go.RowKit
set_option linter.unusedVariables false
set_option maxRecDepth 4000

/-- Cells stored into a row whose mark lies behind them. -/
theorem run_storeCells_free (P : Program) (g o : Nat) (t : TypeId) (lo hi : Nat) : ∀ (vs : List Value) (i : Nat) (cur : Array Value) (w : World), w.heap[g]? = some (.cells cur t (lo, hi)) → o + i + vs.length ≤ lo → o + i + vs.length ≤ cur.size → (∀ v ∈ vs, v.oneCell' = true) →
    (storeCells ⟨g, o, none⟩ vs i).run P w = .ok () (w.setRow g (cur.toList.take (o + i) ++ vs ++ cur.toList.drop (o + i + vs.length)).toArray)
  | [], i, cur, w, hg, _, _, _ => by
    simp only [storeCells, List.append_nil, List.length_nil, Nat.add_zero, List.take_append_drop, Array.toArray_toList]
    rw [setRow_self w g cur t (lo, hi) hg]
    rfl
  | v :: rest, i, cur, w, hg, hlo, hl, h1 => by
    have hi' : o + i < cur.size := by simp at hl; omega
    have hlo' : o + i < lo := by simp at hlo; omega
    have hadd : (⟨g, o, none⟩ : Addr).add i = ⟨g, o + i, none⟩ := by unfold Addr.add; split <;> simp_all
    have hcell : w.cell? ⟨g, o + i, none⟩ = some cur[o + i] := by simp [World.cell?, hg, hi']
    have hfro : w.frozen? ⟨g, o + i, none⟩ = false := by simp [World.frozen?, hg]; omega
    have hst : (store ((⟨g, o, none⟩ : Addr).add i) v).run P w = .ok () (w.setRow g (cur.setIfInBounds (o + i) v)) := by
      rw [hadd, run_store P w _ v _ (h1 v (by simp)), hcell]
      simp [hfro, setCell_eq_setRow w g (o + i) cur t (lo, hi) v hg]
    have ih := run_storeCells_free P g o t lo hi rest (i + 1) (cur.setIfInBounds (o + i) v) (w.setRow g (cur.setIfInBounds (o + i) v)) (setRow_heap w g cur _ t _ hg) (by simp at hlo; omega) (by simp at hl ⊢; omega) (fun x hx => h1 x (by simp [hx]))
    simp only [storeCells, Sem.run_bind, hst, Result.andThen_ok, ih, setRow_setRow]
    congr 3
    have e := list_seg_step cur.toList (o + i) v rest (by simp at hl ⊢; omega)
    simpa [Array.toList_setIfInBounds, Nat.add_assoc] using e

/-- An append whose run is known, in a walk. -/
theorem wpList_append_run {P : Program} {w w' : World} {ops : Array Oper} {rest : List Oper} {o : Oper} {act : Act} {Q : Exit → Act → World → Prop} (hgd : o.guard = none) (s x : Operand) (t u : TypeId)
    (ho : o.op = .call { callee := .builtin .append, args := #[s, x], argTypes := #[t, u] }) (v vx r : Value) (hs : act.eval s = v) (hx : act.eval x = vx)
    (hr : ∀ ty, (Builtin.append_ #[t, u] ty #[v, vx]).run P w = .ok r w') (hK : wpList P ops Q rest (act.put o.dst r) w') : wpList P ops Q (o :: rest) act w :=
  wpList_plain hgd fun _ hK' => by
    unfold Oper.wp execOp
    simp only [ho, resolve, invoke, builtin, Sem.run_bind, Sem.run_pure, Result.andThen_ok, List.map_toArray, List.map_cons, List.map_nil, hs, hx, hr]
    exact hK' _ _ hK
theorem zeroCells_u8 (m : Nat) : Builtin.zeroCells (Value.int .u8 0).cells m = Array.replicate m (.int .u8 0) := by
  unfold Builtin.zeroCells
  apply Array.ext
  · simp [Value.cells]
  · intro i h1 h2
    simp [Value.cells, Nat.mod_one]
theorem made_bytes (w : World) (s : ByteArray) (m : Nat) (hs : s.size ≤ 1048576) (hm : m ≤ 1048576) : ∃ w1 C w2 g cap, (convert 9 42 (.string s)).run Try.prog w = .ok (.slice (some ⟨w.heap.size, 0, none⟩) s.size C) w1 ∧
    (∀ ty, (Builtin.append_ #[42, 3] ty #[.slice (some ⟨w.heap.size, 0, none⟩) s.size C, .int .i64 (m : Int)]).run Try.prog w1 = .ok (.slice (some ⟨g, 0, none⟩) (s.size + m) cap) w2) ∧
    OwnB w2 w.heap.size (.slice (some ⟨g, 0, none⟩) (s.size + m) cap) (tx s ++ List.replicate m 0) ∧ Below w.heap.size w w2 ∧ s.size + m ≤ cap ∧ cap ≤ 9223372036854775807 := by
  obtain ⟨i0, hi0, hz0, hz1, hz2⟩ := info_parts info_u8
  have hrun := run_bytes_of_string (P := Try.prog) w 9 42 5 s Try.underlying9 Try.underlying42 Try.underlying5
  have hCge := grownCap_ge w s.size 0 5
  have hCle := grownCap_le_maxLen w s.size 0 5 (by unfold maxLen; omega)
  unfold maxLen at hCle
  generalize grownCap w s.size 0 5 = C at *
  have hsz : (bytesRow s C).size = C := by
    unfold bytesRow
    rw [Array.size_append, Array.size_map, Array.size_replicate]
    show s.size + (C - s.size) = C
    omega
  rw [hsz] at hrun
  have hbl : bytes (tx s ++ List.replicate m 0) := fun x hx => by
    rcases List.mem_append.1 hx with hx | hx
    · exact tx_bytes s x hx
    · rw [(List.mem_replicate.1 hx).2]; decide
  have hln : (tx s ++ List.replicate m 0).length = s.size + m := by rw [List.length_append, tx_length, List.length_replicate]
  have hget : ∀ i, (tx s ++ List.replicate m 0).getD i 0 = (tx s).getD i 0 := fun i => by
    rw [List.getD_eq_getElem?_getD, List.getD_eq_getElem?_getD]
    by_cases h : i < (tx s).length
    · rw [List.getElem?_append_left h]
    · rw [List.getElem?_append_right (by omega), List.getElem?_eq_none (l := tx s) (by omega), List.getElem?_replicate]
      split <;> rfl
  have hold : ∀ i, i < s.size → (bytesRow s C)[i]? = some (.int .u8 (((tx s).getD i 0 : Nat) : Int)) := fun i hi => by
    rw [bytesRow_at s _ i hi, ← tx_get s i hi]
    rfl
  have hgw : (w.drew.alloc (.cells (bytesRow s C) 5 (C, C + 1))).heap[w.heap.size]? = some (.cells (bytesRow s C) 5 (C, C + 1)) := by
    show (w.heap.push _)[w.heap.size]? = _
    simp
  have hb1 : Below w.heap.size w (w.drew.alloc (.cells (bytesRow s C) 5 (C, C + 1))) := ((Below.refl _ _).drew).alloc (Nat.le_refl _) _
  generalize hw1 : w.drew.alloc (.cells (bytesRow s C) 5 (C, C + 1)) = w1 at *
  have hwm : IntKind.i64.wrap (m : Int) = (m : Int) := by
    rw [IntKind.wrap_i64]
    omega
  have hasi : ∀ W, (asInt (.int .i64 (m : Int))).run Try.prog W = .ok (m : Int) W := fun _ => rfl
  have hl0 : ¬ ((m : Int) < 0) := by omega
  have hby : ¬ (281474976710656 < (m : Int) * (i0.bytes : Int)) := by rw [hz2]; omega
  by_cases hroom : s.size + m ≤ C
  · have hst := run_storeCells_free Try.prog w.heap.size s.size 5 C (C + 1) (List.replicate m (.int .u8 0)) 0 (bytesRow s C) w1 hgw (by simp; omega) (by simp [hsz]; omega) (fun v hv => by rw [(List.mem_replicate.1 hv).2]; rfl)
    rw [Nat.add_zero, List.length_replicate] at hst
    obtain ⟨R, hR⟩ : ∃ R, (List.take s.size (bytesRow s C).toList ++ List.replicate m (Value.int .u8 0) ++ List.drop (s.size + m) (bytesRow s C).toList).toArray = R := ⟨_, rfl⟩
    rw [hR] at hst
    have hw2 := setRow_heap w1 w.heap.size (bytesRow s C) R 5 (C, C + 1) hgw
    have hlen : (List.take s.size (bytesRow s C).toList).length = s.size := by rw [List.length_take, Array.length_toList, hsz]; omega
    have hRat : ∀ i, i < s.size + m → R[i]? = some (.int .u8 (((tx s).getD i 0 : Nat) : Int)) := fun i hi => by
      rw [← hR, List.getElem?_toArray, List.append_assoc]
      by_cases h : i < s.size
      · rw [List.getElem?_append_left (by omega), List.getElem?_take, if_pos h, Array.getElem?_toList, hold i h]
      · rw [List.getElem?_append_right (by omega), hlen, List.getElem?_append_left (by rw [List.length_replicate]; omega), List.getElem?_replicate, if_pos (by omega)]
        rw [List.getD_eq_getElem?_getD, List.getElem?_eq_none (by rw [tx_length]; omega)]
        rfl
    refine ⟨w1, C, w1.setRow w.heap.size R, w.heap.size, C, hrun, fun ty => ?_, ⟨hbl, .inr ⟨w.heap.size, C, by rw [hln], Nat.le_refl _, (Array.getElem?_eq_some_iff.1 hw2).1, fun i hi => ?_, fun i hi => ?_⟩⟩, ?_, hroom, hCle⟩
    · unfold Builtin.append_
      by_cases hm0 : m = 0
      · subst hm0
        have hself : w1.setRow w.heap.size R = w1 := by
          simp [storeCells] at hst
          exact hst.symm
        rw [hself]
        simp [run_underlying Try.underlying42, run_underlying Try.underlying3, sizeOf, typeInfo, zeroValue, hi0, hz0, hCge, storeCells, show ∀ W, (asInt (.int .i64 (0 : Int))).run Try.prog W = .ok (0 : Int) W from fun _ => rfl, show IntKind.i64.wrap 0 = 0 from rfl]
      · have hadd : (⟨w.heap.size, 0, none⟩ : Addr).add s.size = ⟨w.heap.size, s.size, none⟩ := by unfold Addr.add; split <;> simp_all
        simp [run_underlying Try.underlying42, run_underlying Try.underlying3, sizeOf, typeInfo, zeroValue, hi0, hz0, hz1, hasi, hwm, hl0, hby, hroom, hm0, zeroCells_u8, hadd, hst]
    · rw [hget]
      rw [hln] at hi
      exact (Lib.cell_of_heap hw2 i).trans (hRat i hi)
    · rw [hln] at hi
      have : ¬ C ≤ i := by omega
      simp [World.frozen?, hw2, this]
    · exact hb1.trans ⟨rfl, rfl, rfl, by simp, fun k hk => setRow_other _ _ k _ (by omega)⟩
  · have hfc := run_firstCells_some (P := Try.prog) w1.drew 1 s.size ⟨w.heap.size, 0, none⟩ s.size C (cellsB (tx s)) (by rw [cellsB_length, tx_length, Nat.mul_one]) (fun j v hj => by
      have hlt : j < (tx s).length := by
        have := (List.getElem?_eq_some_iff.1 hj).1
        rwa [cellsB_length] at this
      have e : (⟨w.heap.size, 0, none⟩ : Addr).add j = ⟨w.heap.size, j, none⟩ := by unfold Addr.add; split <;> simp_all
      rw [e, ← hj, cellsB_get _ _ hlt]
      exact (Lib.cell_of_heap hgw j).trans (hold j (by rwa [tx_length] at hlt)))
    have hfit := growslice_fits (need := s.size + m) (old := C) (bytes := i0.bytes) (by omega) (by rw [hz2]; omega)
    have hG := grownCap_ge w1 (s.size + m) C 5
    have hGm := grownCap_le_maxLen w1 (s.size + m) C 5 (by unfold maxLen; omega)
    unfold maxLen at hGm
    have h48 : ¬ (281474976710656 < Builtin.nextslicecap (s.size + m) C * i0.bytes) := by omega
    have h63 : ¬ (9223372036854775807 < (s.size : Int) + (m : Int)) := by omega
    have hm0 : m ≠ 0 := by omega
    obtain ⟨R, hR⟩ : ∃ R, (cellsB (tx s)).toArray ++ Array.replicate m (Value.int .u8 0) ++ Array.replicate (grownCap w1 (s.size + m) C 5 - (s.size + m)) (Value.int .u8 0) = R := ⟨_, rfl⟩
    have hRat : ∀ i, i < s.size + m → R[i]? = some (.int .u8 (((tx s).getD i 0 : Nat) : Int)) := fun i hi => by
      rw [← hR, Array.append_assoc]
      have hlc : (cellsB (tx s)).toArray.size = s.size := by simp [cellsB_length, tx_length]
      by_cases h : i < s.size
      · rw [Array.getElem?_append_left (by omega), List.getElem?_toArray, cellsB_get _ _ (by rw [tx_length]; exact h)]
      · rw [Array.getElem?_append_right (by omega), hlc, Array.getElem?_append_left (by simp; omega), Array.getElem?_replicate, if_pos (by omega)]
        rw [List.getD_eq_getElem?_getD, List.getElem?_eq_none (by rw [tx_length]; omega)]
        rfl
    have hw2 : (w1.drew.alloc (.cells R 5)).heap[w1.heap.size]? = some (.cells R 5 (0, 0)) := by
      show (w1.heap.push _)[w1.heap.size]? = _
      simp
    refine ⟨w1, C, w1.drew.alloc (.cells R 5), w1.heap.size, grownCap w1 (s.size + m) C 5, hrun, fun ty => ?_, ⟨hbl, .inr ⟨w1.heap.size, _, by rw [hln], hb1.size, (Array.getElem?_eq_some_iff.1 hw2).1, fun i hi => ?_, fun i hi => ?_⟩⟩, ?_, hG, hGm⟩
    · unfold Builtin.append_
      simp [run_underlying Try.underlying42, run_underlying Try.underlying3, sizeOf, typeInfo, zeroValue, hi0, hz0, hz1, hasi, hwm, hl0, hby, hroom, hm0, zeroCells_u8, h48, h63, Question.forced, hfc, newRow, grownCap]
      rw [← hR]
      simp [grownCap]
    · rw [hget]
      rw [hln] at hi
      exact (Lib.cell_of_heap hw2 i).trans (hRat i hi)
    · exact Lib.frozen_of_heap hw2 i
    · exact (hb1.drew).alloc hb1.size _
end Go.Proofs.Ytmegeoiilpciiaa
