/-
  Slices of rows of one's own, and 'append' of one row; 'append(own, make([]uint64, m)...)'.
-/
import Derived.Test.YtbfkhioljpgjjaaDoorRi
import Derived.Test.YtbfkhioljpgjjaaDoorGb
import Derived.Test.YtbfkhioljpgjjaaDoorVl
import Derived.OwnWalk
import Derived.Lib.AppendZeros
import Derived.Lib.AppendZerosOnto
namespace Go.Proofs.YtbfkhioljpgjjaaDoor
open Go.RowKit Go.Sort
set_option linter.unusedVariables false
set_option maxRecDepth 4000

theorem info_rowZ : (Tryd.prog.info? 36).map (fun i => (i.zero, i.size, i.bytes)) = some (some (.agg #[.slice none 0 0, .string ⟨#[]⟩]), 2, 40) := by kernel_rfl
/-- The cells of rows. -/
def cellsR : List RV → List Value
  | [] => []
  | r :: rs => .slice r.a r.n r.c :: .string r.s :: cellsR rs
theorem cellsR_length : ∀ rs : List RV, (cellsR rs).length = rs.length * 2
  | [] => rfl
  | r :: rs => by simp [cellsR, cellsR_length rs]; omega
theorem cellsR_append : ∀ (a b : List RV), cellsR (a ++ b) = cellsR a ++ cellsR b
  | [], b => rfl
  | r :: a, b => by simp [cellsR, cellsR_append a b]
theorem cellsR_get : ∀ (rs : List RV) (i : Nat), i < rs.length → (cellsR rs)[i * 2]? = some (.slice (rs.getD i .dflt).a (rs.getD i .dflt).n (rs.getD i .dflt).c) ∧ (cellsR rs)[i * 2 + 1]? = some (.string (rs.getD i .dflt).s)
  | [], i, h => by simp at h
  | r :: rs, 0, _ => by simp [cellsR]
  | r :: rs, i + 1, h => by
    have := cellsR_get rs i (by simpa using h)
    rw [show (i + 1) * 2 = i * 2 + 1 + 1 by omega]
    simpa [cellsR] using this
theorem cellsR_one : ∀ (rs : List RV), ∀ u ∈ cellsR rs, u.oneCell' = true
  | [], u, h => by cases h
  | r :: rs, u, h => by
    rcases List.mem_cons.1 h with rfl | h
    · rfl
    · rcases List.mem_cons.1 h with rfl | h
      · rfl
      · exact cellsR_one rs u h
/-- A slice of rows of the call's own. -/
def OwnS (w : World) (B : Nat) (v : Value) (rs : List RV) : Prop := w.ownsRow B 36 2 v rs.length (cellsR rs)
theorem OwnS.nil (w : World) (B : Nat) : OwnS w B (.slice none 0 0) [] := World.ownsRow_nil _ _ _ _
theorem OwnS.cellAt {w : World} {B : Nat} {g n c : Nat} {rs : List RV} (h : OwnS w B (.slice (some ⟨g, 0, none⟩) n c) rs) {j : Nat} {u : Value} (hu : (cellsR rs)[j]? = some u) : w.cell? ⟨g, j, none⟩ = some u := by
  have := World.ownsRow.cells h (g := g) rfl j u hu
  rwa [show (⟨g, 0, none⟩ : Addr).add j = ⟨g, j, none⟩ by unfold Addr.add; split <;> simp_all] at this
theorem OwnS.rows {w : World} {B : Nat} {v : Value} {rs : List RV} (h : OwnS w B v rs) (hr : RowsIn w rs) : ∃ a c, v = .slice a rs.length c ∧ RowsAt w a rs.length rs ∧ rs.length ≤ c ∧ c ≤ 9223372036854775807 := by
  have h' := h
  rcases h.2 with ⟨rfl, h0⟩ | ⟨g, cap, cur, rfl, hb, hg, hn, hm, hsz, ht⟩
  · exact ⟨none, 0, by rw [h0], ⟨rfl, fun i hi => by omega, .inl h0⟩, by omega, by omega⟩
  · refine ⟨_, cap, rfl, ⟨rfl, fun i hi => (hr.get hi).1, .inr ⟨g, 0, rfl, fun i hi => ?_⟩⟩, hn, by simpa [maxLen] using hm⟩
    rw [Nat.zero_add]
    exact ⟨h'.cellAt (cellsR_get rs i hi).1, h'.cellAt (cellsR_get rs i hi).2⟩
theorem OwnS.mono {w : World} {B B' : Nat} {v : Value} {rs : List RV} (h : OwnS w B v rs) (hB : B' ≤ B) : OwnS w B' v rs := by
  refine ⟨h.1, ?_⟩
  rcases h.2 with h0 | ⟨g, cap, cur, h1, hb, r⟩
  · exact .inl h0
  · exact .inr ⟨g, cap, cur, h1, Nat.le_trans hB hb, r⟩
theorem OwnS.below {w w' : World} {B : Nat} {v : Value} {rs : List RV} (h : OwnS w B v rs) (hb : Below w.heap.size w w') : OwnS w' B v rs := by
  refine ⟨h.1, ?_⟩
  rcases h.2 with h0 | ⟨g, cap, cur, h1, hg, hgg, r⟩
  · exact .inl h0
  · exact .inr ⟨g, cap, cur, h1, hg, (hb.block g (Array.getElem?_eq_some_iff.1 hgg).1).trans hgg, r⟩
/-- What is turned in a row of words is no row of rows. -/
theorem OwnS.kept {w w' : World} {B B' g n c : Nat} {v : Value} {rs : List RV} {xs : List Nat} (h : OwnS w B v rs) (hg : w.grownBy w' (some g)) (ho : Own w B' (.slice (some ⟨g, 0, none⟩) n c) xs) : OwnS w' B v rs := by
  refine World.ownsRow.kept h hg ?_
  rcases h.2 with ⟨rfl, h0⟩ | ⟨g1, cap, cur, rfl, hb, hgg, r⟩
  · exact .inl rfl
  · refine .inr fun e => ?_
    simp only [Value.ownBlock, Option.some.injEq] at e
    subst e
    rcases ho.2.2 with ⟨e, _⟩ | ⟨g2, cap2, cur2, e, hb2, hg2, r2⟩
    · cases e
    · simp only [Value.slice.injEq, Option.some.injEq, Addr.mk.injEq, and_true] at e
      rw [← e.1, hgg] at hg2
      simp only [Option.some.injEq, Obj.cells.injEq] at hg2
      exact absurd hg2.2.1 (by decide)
/-- 'append(l, row)'. -/
theorem wpList_pushS {w : World} {ops : Array Oper} {rest : List Oper} {o : Oper} {act : Act} {Q : Exit → Act → World → Prop} (hgd : o.guard = none) (s x : Operand)
    (ho : o.op = .call { callee := .builtin .append, args := #[s, x], argTypes := #[24, 24] }) (B : Nat) (v : Value) (rs : List RV) (r : RV)
    (hs : act.eval s = v) (hx : act.eval x = .slice (some ⟨w.heap.size, 0, none⟩) 1 1) (h : OwnS w B v rs) (hB : B ≤ w.heap.size) (hn : rs.length ≤ 1048576)
    (hK : ∀ s' w', OwnS w' B s' (rs ++ [r]) → w.grownBy w' v.ownBlock → Below B w w' → wpList Tryd.prog ops Q rest (act.put o.dst s') w') : wpList Tryd.prog ops Q (o :: rest) act (w.alloc (.cells #[.slice r.a r.n r.c, .string r.s] 36)) := by
  obtain ⟨i0, hi, hz0, hz1, hz2⟩ := info_parts info_rowZ
  have hb : Below w.heap.size w (w.alloc (.cells #[.slice r.a r.n r.c, .string r.s] 36)) := (Below.refl _ _).alloc (Nat.le_refl _) _
  have h1 : (w.alloc (.cells #[.slice r.a r.n r.c, .string r.s] 36)).ownsRow B 36 2 v rs.length (cellsR rs) := h.below hb
  refine wpList_append_own _ hgd s x 24 ho B 36 i0 (.agg #[.slice none 0 0, .string ⟨#[]⟩]) 2 40 Tryd.underlying24 hi hz0 hz1 hz2 rfl (by decide) v rs.length (cellsR rs) hs h1 ⟨w.heap.size, 0, none⟩ 1 1 [.slice r.a r.n r.c, .string r.s] hx rfl (fun j u hj => ?_)
    (fun u hu => by rcases List.mem_cons.1 hu with rfl | hu; · rfl
                    · rw [List.mem_singleton.1 hu]; rfl) (by unfold maxLen; omega) (by omega) (Nat.le_trans hB hb.size) ?_
  · have e : (⟨w.heap.size, 0, none⟩ : Addr).add j = ⟨w.heap.size, j, none⟩ := by unfold Addr.add; split <;> simp_all
    rw [e, World.cell?_alloc_at _ _ _ _ rfl]
    match j with
    | 0 => simpa using hj
    | 1 => simpa using hj
    | j + 2 => simp at hj
  · intro v' w' hown hgrow _
    refine hK v' w' ?_ (gb_trans (gb_of_below hb _) hgrow (.inl rfl)) ((hb.mono hB).grown hgrow (Nat.le_trans hB hb.size) fun k hk => (h1.lt k hk).1)
    rw [show cellsR rs ++ [.slice r.a r.n r.c, .string r.s] = cellsR (rs ++ [r]) by rw [cellsR_append]; rfl] at hown
    show w'.ownsRow B 36 2 v' (rs ++ [r]).length (cellsR (rs ++ [r]))
    rw [List.length_append]
    exact hown
theorem zeroCells_u64 (m : Nat) : Builtin.zeroCells (Value.int .u64 0).cells m = Array.replicate m (.int .u64 0) := by
  unfold Builtin.zeroCells
  apply Array.ext
  · simp [Value.cells]
  · intro i h1 h2
    simp [Value.cells, Nat.mod_one]
theorem cellsU_zeros (xs : List Nat) (m : Nat) : cellsU (xs ++ List.replicate m 0) = cellsU xs ++ List.replicate m (.int .u64 0) := by simp [cellsU]
/-- 'append(own, make([]uint64, m)...)'. -/
theorem append_zeros (B : Nat) (a : Option Addr) (c : Nat) (xs : List Nat) (m : Nat) (w : World) (ho : Own w B (.slice a xs.length c) xs) (hB : B ≤ w.heap.size) (hm0 : 0 < m) (hn : xs.length + m ≤ 1048576) :
    ∃ a' c' w', (∀ ty, (Builtin.append_ #[34, 3] ty #[.slice a xs.length c, .int .i64 (m : Int)]).run Tryd.prog w = .ok (.slice a' (xs.length + m) c') w') ∧
      Own w' B (.slice a' (xs.length + m) c') (xs ++ List.replicate m 0) ∧ w.grownBy w' (Value.slice a xs.length c).ownBlock := by
  obtain ⟨i0, hi0, hz0, hz1, hz2⟩ := info_parts info_u64
  have hsm : smalls (xs ++ List.replicate m 0) := fun x hx => (List.mem_append.1 hx).elim (ho.1 x) (smalls_zeros m x)
  have hln : (xs ++ List.replicate m 0).length = xs.length + m := by simp
  have hcl : (cellsU (xs ++ List.replicate m 0)).length = (xs.length + m) * 1 := by rw [cellsU_length, hln, Nat.mul_one]
  have grown : ∀ (old : Nat) (R : Array Value), R = (cellsU xs).toArray ++ Builtin.zeroCells (Value.int .u64 0).cells m ++ Builtin.zeroCells (Value.int .u64 0).cells (grownCap w (xs.length + m) old 46 - (xs.length + m)) →
      (w.drew.alloc (.cells R 46)).ownsRow B 46 1 (.slice (some ⟨w.heap.size, 0, none⟩) (xs.length + m) (grownCap w (xs.length + m) old 46)) (xs.length + m) (cellsU (xs ++ List.replicate m 0)) := by
    intro old R hR
    have hge := grownCap_ge w (xs.length + m) old 46
    have hcm := grownCap_le_maxLen w (xs.length + m) old 46 (by unfold maxLen; omega)
    rw [zeroCells_u64, zeroCells_u64] at hR
    refine ⟨hcl, .inr ⟨w.heap.size, _, _, rfl, hB, heap_alloc_new w.drew _, hge, hcm, ?_, ?_⟩⟩
    · rw [hR]; simp [cellsU_length]; omega
    · have e : R.toList = cellsU (xs ++ List.replicate m 0) ++ List.replicate (grownCap w (xs.length + m) old 46 - (xs.length + m)) (.int .u64 0) := by
        rw [hR, cellsU_zeros]; simp
      rw [e, ← hcl]
      exact List.take_left
  have gb : ∀ R r, w.grownBy (w.drew.alloc (.cells R 46)) r := fun R r => ⟨rfl, rfl, rfl, by simp, fun k hk _ => heap_alloc_old w.drew _ hk⟩
  rcases ho.2.2 with ⟨e, h0⟩ | ⟨g, cap, cur, e, hbg, hg, hnc, hcm, hcs, htake⟩
  · simp only [Value.slice.injEq] at e
    obtain ⟨rfl, _, rfl⟩ := e
    have hx : xs = [] := List.eq_nil_of_length_eq_zero h0
    subst hx
    have hr := fun ty => Lib.run_append_nil_zeros (P := Tryd.prog) w 34 3 ty 46 i0 (.int .u64 0) .i64 .i64 Tryd.underlying34 Tryd.underlying3 hi0 hz0 m hm0 (by omega) (by omega) (by rw [hz2]; omega)
    have hG := grown 0 _ rfl
    simp only [List.length_nil, Nat.zero_add, cellsU, List.map_nil, List.nil_append, Array.empty_append] at hG hr ⊢
    exact ⟨_, _, _, hr, ⟨by simpa using hsm, by simpa [cellsU] using hG⟩, gb _ _⟩
  · simp only [Value.slice.injEq, true_and] at e
    obtain ⟨rfl, rfl⟩ := e
    rw [Nat.mul_one] at hcs htake
    by_cases hroom : xs.length + m ≤ c
    · have hst := run_storeCells_at Tryd.prog g xs.length 46 (List.replicate m (.int .u64 0)) 0 cur w hg (by simp; omega) (fun v hv => by rw [(List.mem_replicate.1 hv).2]; rfl)
      rw [Nat.add_zero, List.length_replicate] at hst
      have hwm : IntKind.i64.wrap (m : Int) = (m : Int) := by
        rw [IntKind.wrap_i64]
        omega
      have hasi : ∀ W, (asInt (.int .i64 (m : Int))).run Tryd.prog W = .ok (m : Int) W := fun _ => rfl
      have hl0 : ¬ ((m : Int) < 0) := by omega
      have hby : ¬ (281474976710656 < (m : Int) * (i0.bytes : Int)) := by rw [hz2]; omega
      have hm1 : m ≠ 0 := by omega
      have hadd : (⟨g, 0, none⟩ : Addr).add xs.length = ⟨g, xs.length, none⟩ := by unfold Addr.add; split <;> simp_all
      refine ⟨some ⟨g, 0, none⟩, c, w.setRow g (cur.toList.take xs.length ++ List.replicate m (Value.int .u64 0) ++ cur.toList.drop (xs.length + m)).toArray, fun ty => ?_, ⟨hsm, ?_⟩, ?_⟩
      · unfold Builtin.append_
        simp [run_underlying Tryd.underlying34, run_underlying Tryd.underlying3, sizeOf, typeInfo, zeroValue, hi0, hz0, hz1, hasi, hwm, hl0, hby, hroom, hm1, zeroCells_u64, hadd, hst]
      · rw [hln]
        refine ⟨hcl, .inr ⟨g, c, _, rfl, hbg, setRow_heap w g cur _ 46 _ hg, hroom, hcm, ?_, ?_⟩⟩
        · simp; omega
        · rw [htake, Nat.mul_one, cellsU_zeros]
          have : (cellsU xs ++ List.replicate m (Value.int .u64 0)).length = xs.length + m := by simp [cellsU_length]
          rw [← this]
          exact List.take_left
      · exact ⟨rfl, rfl, rfl, by simp, fun k _ hk => setRow_other w g k _ (fun e => hk (by simp [Value.ownBlock, e]))⟩
    · have hfc := run_firstCells_some (P := Tryd.prog) w.drew 1 xs.length ⟨g, 0, none⟩ xs.length c (cellsU xs) (by rw [cellsU_length, Nat.mul_one]) (fun j u hj => (World.ownsRow.cells ho.2 (g := g) rfl j u hj))
      have hr := fun ty => Lib.run_append_grow_zeros (P := Tryd.prog) w 34 3 ty 46 i0 (.int .u64 0) .i64 .i64 Tryd.underlying34 Tryd.underlying3 hi0 hz0 (some ⟨g, 0, none⟩) xs.length c (cellsU xs) (by rw [hz1]; exact hfc) m hm0 (by omega) (by omega) (by omega) (by rw [hz2]; omega) (growslice_fits (by omega) (by rw [hz2]; omega))
      exact ⟨_, _, _, hr, ⟨hsm, by rw [hln]; exact grown c _ rfl⟩, gb _ _⟩
end Go.Proofs.YtbfkhioljpgjjaaDoor
