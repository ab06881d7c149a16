/-
  Contract of xor.vecs.
  Contract of xor.Row.
-/
import Derived.Test.YtnkolioleljegaaDoorM2
namespace Go.Proofs.YtnkolioleljegaaDoor
open Go.RowKit Go.Sort
set_option linter.unusedVariables false
set_option maxRecDepth 4000

/-- The xor of all rows' words. -/
def vecL (rs : List RV) : List Nat := rs.foldl (fun a r => xorL a r.xs) []
theorem vecL_from (rs : List RV) : ∀ a, rs.foldl (fun a r => xorL a r.xs) a = xorL a (vecL rs) := by
  induction rs with
  | nil => intro a; exact (xorL_nil a).symm
  | cons r rs ih =>
    intro a
    show rs.foldl _ (xorL a r.xs) = xorL a (rs.foldl _ (xorL [] r.xs))
    rw [ih, ih (xorL [] r.xs), nil_xorL, xorL_assoc]
theorem vecL_cons (r : RV) (rs : List RV) : vecL (r :: rs) = xorL r.xs (vecL rs) := by
  show rs.foldl _ (xorL [] r.xs) = _
  rw [vecL_from, nil_xorL]
theorem vecL_append (ps bs : List RV) : vecL (ps ++ bs) = xorL (vecL ps) (vecL bs) := by
  unfold vecL
  rw [List.foldl_append]
  exact vecL_from bs _
theorem vecL_len (rs : List RV) (h : ∀ r ∈ rs, r.xs.length ≤ 10) : (vecL rs).length ≤ 10 := by
  induction rs with
  | nil => simp [vecL]
  | cons r rs ih =>
    rw [vecL_cons, xorL_length]
    have h1 := h r List.mem_cons_self
    have h2 := ih (fun r hr => h r (List.mem_cons_of_mem _ hr))
    omega
theorem getD_take_rv (rs : List RV) (q i : Nat) (h : i < q) : (rs.take q).getD i default = rs.getD i default := by
  simp [List.getD_eq_getElem?_getD, h]
theorem getD_drop_rv (rs : List RV) (q i : Nat) : (rs.drop q).getD i default = rs.getD (q + i) default := by
  simp [List.getD_eq_getElem?_getD, List.getElem?_drop]
theorem RowsAt.take {w : World} {a : Option Addr} {n : Nat} {rs : List RV} (h : RowsAt w a n rs) (q : Nat) (hq : q ≤ n) : RowsAt w a q (rs.take q) := by
  refine ⟨by rw [List.length_take, h.1]; omega, fun i hi => by rw [getD_take_rv rs q i hi]; exact h.2.1 i (by omega), ?_⟩
  rcases h.2.2 with h0 | ⟨b, off, rfl, hc⟩
  · exact .inl (by omega)
  · exact .inr ⟨b, off, rfl, fun i hi => by rw [getD_take_rv rs q i hi]; exact hc i (by omega)⟩
theorem RowsAt.drop {w : World} {b off : Nat} {n : Nat} {rs : List RV} (h : RowsAt w (some ⟨b, off, none⟩) n rs) (q : Nat) (hq : q ≤ n) : RowsAt w (some ⟨b, off + q * 2, none⟩) (n - q) (rs.drop q) := by
  refine ⟨by rw [List.length_drop, h.1], fun i hi => by rw [getD_drop_rv]; exact h.2.1 _ (by omega), ?_⟩
  rcases h.2.2 with h0 | ⟨b', off', he, hc⟩
  · exact .inl (by omega)
  · simp only [Option.some.injEq, Addr.mk.injEq, and_true] at he
    obtain ⟨rfl, rfl⟩ := he
    refine .inr ⟨b, _, rfl, fun i hi => ?_⟩
    rw [getD_drop_rv, show off + q * 2 + i * 2 = off + (q + i) * 2 from by omega]
    exact hc (q + i) (by omega)

theorem info_row : (Tryd.prog.info? 37).map (fun i => (i.size, i.bytes)) = some (2, 40) := by kernel_rfl
theorem size_row (w : World) : (sizeOf 37).run Tryd.prog w = .ok 2 w := by
  cases h : Tryd.prog.info? 37 with
  | none => have := info_row; rw [h] at this; cases this
  | some i =>
    have := info_row
    rw [h] at this
    simp only [Option.map_some, Option.some.injEq, Prod.mk.injEq] at this
    simp [sizeOf, typeInfo, h, this.1]
theorem elem_rows : Tryd.prog.underlying 22 = some (.slice (Tryd.prog.elem 22)) := by kernel_rfl
theorem elem_rows' : Tryd.prog.elem 22 = 37 := by kernel_rfl
theorem slice_lo (b off n c q : Nat) (hq : q ≤ n) (hc : q < c) (w : World) :
    (Instr.sliceAt 22 (.slice (some ⟨b, off, none⟩) n c) (some (.int .i64 (q : Int))) none none).run Tryd.prog w = .ok (.slice (some ⟨b, off + q * 2, none⟩) (n - q) (c - q)) w := by
  rw [run_sliceAt_slice _ _ _ _ _ _ elem_rows, run_slice_l _ _ _ _ _ elem_rows _ _ (by omega) (by omega), elem_rows', size_row]
  have e : ¬ c = q := by omega
  simp [Result.andThen, sliced, e, Addr.add]
theorem slice_hi (b off n c q : Nat) (hc : q ≤ c) (w : World) :
    (Instr.sliceAt 22 (.slice (some ⟨b, off, none⟩) n c) none (some (.int .i64 (q : Int))) none).run Tryd.prog w = .ok (.slice (some ⟨b, off, none⟩) q c) w := by
  rw [run_sliceAt_slice _ _ _ _ _ _ elem_rows, run_slice_h _ _ _ _ _ elem_rows _ _ (by omega) (by omega), elem_rows', size_row]
  simp [Result.andThen, sliced, Addr.add]
end Go.Proofs.YtnkolioleljegaaDoor
namespace Go.Proofs.YtnkolioleljegaaDoor
open Go.RowKit Go.Sort
set_option linter.unusedVariables false
set_option maxRecDepth 4000

/-- A block of one's own that holds a row and can be written. -/
def BoxW (w : World) (g : Nat) (x y : Value) : Prop := BoxAt w g x y ∧ w.frozen? ⟨g, 0, none⟩ = false ∧ w.frozen? ⟨g, 1, none⟩ = false
theorem boxW_new (w : World) (x y : Value) : BoxW (w.alloc (.cells #[x, y] 37)) w.heap.size x y := ⟨box_new w x y, by simp, by simp⟩
theorem BoxW.below {w w' : World} {g : Nat} {x y : Value} (h : BoxW w g x y) (hb : Below w.heap.size w w') : BoxW w' g x y :=
  ⟨h.1.below hb, (hb.frozen (World.block_lt_of_cell? w _ h.1.1)).trans h.2.1, (hb.frozen (World.block_lt_of_cell? w _ h.1.2)).trans h.2.2⟩
theorem BoxW.alloc {w : World} {g : Nat} {x y : Value} (h : BoxW w g x y) (o : Obj) : BoxW (w.alloc o) g x y := h.below ((Below.refl _ _).alloc (Nat.le_refl _) _)
theorem BoxW.other {w : World} {g : Nat} {x y : Value} (h : BoxW w g x y) {g' : Nat} (i : Nat) (u : Value) (hg : g' ≠ g) : BoxW (w.setCell ⟨g', i, none⟩ u) g x y := by
  have h0 : (⟨g', i, none⟩ : Addr) ≠ ⟨g, 0, none⟩ := fun h => hg (by injection h)
  have h1 : (⟨g', i, none⟩ : Addr) ≠ ⟨g, 1, none⟩ := fun h => hg (by injection h)
  exact ⟨⟨(World.cell?_setCell_other (h := h0) ..).trans h.1.1, (World.cell?_setCell_other (h := h1) ..).trans h.1.2⟩, by rw [World.frozen?_setCell]; exact h.2.1, by rw [World.frozen?_setCell]; exact h.2.2⟩
theorem block_setCell_other {w : World} {g k i : Nat} (u : Value) (h : k ≠ g) : (w.setCell ⟨g, i, none⟩ u).heap[k]? = w.heap[k]? := by
  unfold World.setCell
  simp [Array.getElem?_modify, Ne.symm h]
theorem Own.other {w : World} {B : Nat} {v : Value} {xs : List Nat} (h : Own w B v xs) {g : Nat} (i : Nat) (u : Value) (hg : g < B) : Own (w.setCell ⟨g, i, none⟩ u) B v xs := by
  refine ⟨h.1, h.2.1, ?_⟩
  rcases h.2.2 with h0 | ⟨g', cap, cur, h1, hg', hgg, r⟩
  · exact .inl h0
  · exact .inr ⟨g', cap, cur, h1, hg', (block_setCell_other u (by omega)).trans hgg, r⟩
/-- A new block of texts. -/
def TextsW (w : World) (g : Nat) (ss : List ByteArray) : Prop := ∀ i, i < ss.length → w.cell? ⟨g, i, none⟩ = some (.string (ss.getD i ByteArray.empty)) ∧ w.frozen? ⟨g, i, none⟩ = false
theorem TextsW.texts {w : World} {g : Nat} {ss : List ByteArray} (h : TextsW w g ss) : TextsAt w (some ⟨g, 0, none⟩) ss.length ss :=
  ⟨rfl, .inr ⟨g, 0, rfl, fun i hi => by rw [Nat.zero_add]; exact (h i hi).1⟩⟩
theorem TextsW.alloc {w : World} {g : Nat} {ss : List ByteArray} (h : TextsW w g ss) (hg : g < w.heap.size) (o : Obj) : TextsW (w.alloc o) g ss := fun i hi =>
  ⟨(World.cell?_alloc_lt (h := by exact hg) ..).trans (h i hi).1, (World.frozen?_alloc_old (h := by exact Nat.ne_of_lt hg) ..).trans (h i hi).2⟩
theorem getD_set_t (ss : List ByteArray) (k i : Nat) (z : ByteArray) (hk : k < ss.length) : (ss.set k z).getD i ByteArray.empty = if i = k then z else ss.getD i ByteArray.empty := by
  simp only [List.getD_eq_getElem?_getD, List.getElem?_set]
  by_cases h : k = i
  · subst h; simp [hk]
  · simp [h, Ne.symm h]
theorem TextsW.stored {w : World} {g : Nat} {ss : List ByteArray} (h : TextsW w g ss) (k : Nat) (z : ByteArray) (hk : k < ss.length) : TextsW (w.setCell ⟨g, k, none⟩ (.string z)) g (ss.set k z) := by
  intro i hi
  rw [List.length_set] at hi
  refine ⟨?_, by rw [World.frozen?_setCell]; exact (h i hi).2⟩
  rw [getD_set_t ss k i z hk]
  by_cases e : i = k
  · subst e
    rw [if_pos rfl]
    exact World.cell?_setCell_same _ _ _ (h i hi).1
  · rw [if_neg e]
    have h0 : (⟨g, k, none⟩ : Addr) ≠ ⟨g, i, none⟩ := fun h => e (by injection h with _ h; exact h.symm)
    exact (World.cell?_setCell_other (h := h0) ..).trans (h i hi).1
/-- The texts of the first k rows, and nothing of the others. -/
def datK (rs : List RV) (k : Nat) : List ByteArray := (List.range rs.length).map fun i => if i < k then (rs.getD i default).s else ByteArray.empty
theorem datK_length (rs : List RV) (k : Nat) : (datK rs k).length = rs.length := by simp [datK]
theorem datK_getD (rs : List RV) (k i : Nat) : (datK rs k).getD i ByteArray.empty = if i < k ∧ i < rs.length then (rs.getD i default).s else ByteArray.empty := by
  unfold datK
  rw [List.getD_eq_getElem?_getD]
  by_cases hi : i < rs.length
  · simp [hi]
  · simp [hi]
theorem ext_t {a b : List ByteArray} (hl : a.length = b.length) (h : ∀ i, i < a.length → a.getD i ByteArray.empty = b.getD i ByteArray.empty) : a = b := by
  apply List.ext_getElem hl
  intro i h1 h2
  have := h i h1
  simpa [List.getD_eq_getElem?_getD, List.getElem?_eq_getElem h1, List.getElem?_eq_getElem h2] using this
theorem datK_succ (rs : List RV) (k : Nat) (hk : k < rs.length) : (datK rs k).set k (rs.getD k default).s = datK rs (k + 1) := by
  apply ext_t
  · rw [List.length_set, datK_length, datK_length]
  · intro i hi
    rw [List.length_set, datK_length] at hi
    rw [getD_set_t _ _ _ _ (by rw [datK_length]; exact hk), datK_getD, datK_getD]
    by_cases e : i = k
    · subst e; simp [hi]
    · rw [if_neg e]
      by_cases h2 : i < k
      · rw [if_pos ⟨h2, hi⟩, if_pos ⟨by omega, hi⟩]
      · rw [if_neg (by omega), if_neg (by omega)]
theorem datK_all (rs : List RV) : datK rs rs.length = rs.map fun r => r.s := by
  apply ext_t
  · simp [datK_length]
  · intro i hi
    rw [datK_length] at hi
    rw [datK_getD, if_pos ⟨hi, hi⟩]
    simp [List.getD_eq_getElem?_getD, List.getElem?_eq_getElem hi]
theorem row_round {w wr : World} {g g0 k : Nat} {rs : List RV} {x y u v : Value} (hT : TextsW wr g (datK rs k)) (hk : k < rs.length) (hg : g < wr.heap.size) (hX : BoxW wr g0 x y) (hne : g ≠ g0) (hb : Below w.heap.size w wr) (hgw : w.heap.size ≤ g) :
    TextsW ((wr.setCell ⟨g, k, none⟩ (.string (rs.getD k default).s)).alloc (.cells #[u, v] 37)) g (datK rs (k + 1)) ∧
    BoxW ((wr.setCell ⟨g, k, none⟩ (.string (rs.getD k default).s)).alloc (.cells #[u, v] 37)) g0 x y ∧
    Below w.heap.size w ((wr.setCell ⟨g, k, none⟩ (.string (rs.getD k default).s)).alloc (.cells #[u, v] 37)) ∧
    g < ((wr.setCell ⟨g, k, none⟩ (.string (rs.getD k default).s)).alloc (.cells #[u, v] 37)).heap.size := by
  have hb1 := hb.setCell (p := ⟨g, k, none⟩) (by exact hgw) (.string (rs.getD k default).s)
  refine ⟨?_, (hX.other _ _ hne).alloc _, hb1.alloc hb1.size _, by simp; omega⟩
  rw [← datK_succ rs k hk]
  exact (hT.stored k _ (by rw [datK_length]; exact hk)).alloc (by simpa using hg) _
theorem info_str : (Tryd.prog.info? 9).map (fun i => (i.zero, i.size, i.bytes)) = some (some (.string ByteArray.empty), 1, 16) := by kernel_rfl

end Go.Proofs.YtnkolioleljegaaDoor
