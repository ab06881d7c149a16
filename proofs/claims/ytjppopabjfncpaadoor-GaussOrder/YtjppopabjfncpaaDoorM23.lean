/-
  Slices of the rows' vectors, of one's own.
  Slices of the rows' vectors, of one's own.
-/
import Derived.Test.YtjppopabjfncpaaDoorM3
import Derived.Test.YtjppopabjfncpaaDoorM9
import Derived.Test.YtjppopabjfncpaaDoorRw
namespace Go.Proofs.YtjppopabjfncpaaDoor
open Go.RowKit Go.Sort
set_option linter.unusedVariables false
set_option maxRecDepth 4000

/-- The rows' vectors. -/
def vecsL (rs : List RV) : List (List Nat) := rs.map fun r => r.xs
/-- A slice of the rows' vectors, of one's own. -/
def OwnW (w : World) (B : Nat) (v : Value) (ts : List RV) : Prop := w.ownsRow B 35 1 v ts.length (ts.map fun r => .slice r.a r.n r.c)
theorem OwnW.nil (w : World) (B : Nat) : OwnW w B (.slice none 0 0) [] := World.ownsRow_nil _ _ _ _
theorem OwnW.vecs {w : World} {B : Nat} {v : Value} {ts : List RV} (h : OwnW w B v ts) (hr : RowsIn w ts) : ∃ a c, v = .slice a ts.length c ∧ VecsAt w a ts.length (vecsL ts) := by
  have h' : w.ownsRow B 35 1 v ts.length (ts.map fun r => .slice r.a r.n r.c) := h
  rcases h.2 with ⟨rfl, h0⟩ | ⟨g, cap, cur, rfl, hb, hg, hn, hm, hsz, ht⟩
  · exact ⟨none, 0, by rw [h0], by simp [vecsL], .inl h0, fun b off i ai k ci e => by cases e⟩
  · have hcell : ∀ i, i < ts.length → w.cell? ⟨g, 0 + i, none⟩ = some (.slice (ts.getD i .dflt).a (ts.getD i .dflt).n (ts.getD i .dflt).c) := fun i hi => by
      rw [Nat.zero_add, h'.cellAt i (by omega), List.getElem?_map, List.getElem?_eq_getElem hi, List.getD_eq_getElem?_getD, List.getElem?_eq_getElem hi]
      rfl
    have hxs : ∀ i, i < ts.length → (vecsL ts).getD i [] = (ts.getD i .dflt).xs := fun i hi => by
      unfold vecsL
      rw [List.getD_eq_getElem?_getD, List.getElem?_map, List.getElem?_eq_getElem hi, List.getD_eq_getElem?_getD, List.getElem?_eq_getElem hi]
      rfl
    refine ⟨_, cap, rfl, by simp [vecsL], .inr ⟨g, 0, rfl, fun i hi => ?_⟩, fun b off i ai k ci e hi hc => ?_⟩
    · have hri := hr.get hi
      rw [hxs i hi]
      refine ⟨(ts.getD i .dflt).a, (ts.getD i .dflt).c, ?_, ?_⟩
      · rw [hri.1.1]; exact hcell i hi
      · rw [hri.1.1]; exact hri.1
    · simp only [Option.some.injEq, Addr.mk.injEq, and_true] at e
      obtain ⟨rfl, rfl⟩ := e
      rw [hcell i hi] at hc
      simp only [Option.some.injEq, Value.slice.injEq] at hc
      have := (hr.get hi).2
      omega
theorem wpList_pushW {w : World} {ops : Array Oper} {rest : List Oper} {o : Oper} {act : Act} {Q : Exit → Act → World → Prop} (hgd : o.guard = none) (s x : Operand)
    (ho : o.op = .call { callee := .builtin .append, args := #[s, x], argTypes := #[44, 44] }) (B : Nat) (v : Value) (ts : List RV) (r : RV)
    (hs : act.eval s = v) (hx : act.eval x = .slice (some ⟨w.heap.size, 0, none⟩) 1 1) (h : OwnW w B v ts) (hB : B ≤ w.heap.size) (hn : ts.length ≤ 1048576)
    (hK : ∀ s' w', OwnW w' B s' (ts ++ [r]) → Below B w w' → wpList Tryd.prog ops Q rest (act.put o.dst s') w') : wpList Tryd.prog ops Q (o :: rest) act (w.alloc (.cells #[.slice r.a r.n r.c] 35)) := by
  obtain ⟨i0, hi, hz0, hz1, hz2⟩ := info_parts info_u64s
  have hb : Below w.heap.size w (w.alloc (.cells #[.slice r.a r.n r.c] 35)) := (Below.refl _ _).alloc (Nat.le_refl _) _
  have h1 := ownsRow_below h hb
  refine wpList_append_own _ hgd s x 44 ho B 35 i0 (.slice none 0 0) 1 24 Tryd.underlying44 hi hz0 hz1 hz2 rfl (by decide) v ts.length _ hs h1 ⟨w.heap.size, 0, none⟩ 1 1 [.slice r.a r.n r.c] hx rfl (fun j u hj => ?_)
    (fun u hu => by rw [List.mem_singleton.1 hu]; rfl) (by unfold maxLen; omega) (by omega) (Nat.le_trans hB hb.size) ?_
  · match j with
    | 0 =>
      have hc : (w.alloc (.cells #[.slice r.a r.n r.c] 35)).cell? ⟨w.heap.size, 0, none⟩ = some (.slice r.a r.n r.c) := by rw [World.cell?_alloc_at _ _ _ _ rfl]; rfl
      simpa [Addr.add, hc] using hj
    | j + 1 => simp at hj
  · intro v' w' hown hgrow _
    refine hK v' w' ?_ ((hb.mono hB).grown hgrow (Nat.le_trans hB hb.size) fun k hk => (h1.lt k hk).1)
    show w'.ownsRow B 35 1 v' (ts ++ [r]).length ((ts ++ [r]).map fun r => .slice r.a r.n r.c)
    rw [List.length_append, List.map_append]
    exact hown
theorem fit_of {w : World} {ts : List RV} (hr : RowsIn w ts) (hs : shortR ts) : Fit 1048576 (vecsL ts) := fun b hb => by
  obtain ⟨r, hm, rfl⟩ := List.mem_map.1 hb
  obtain ⟨i, hi, rfl⟩ := List.mem_iff_getElem.1 hm
  have h1 := hr _ (List.getElem_mem hi)
  have h2 := hs i
  rw [List.getD_eq_getElem?_getD, List.getElem?_eq_getElem hi] at h2
  simp only [Option.getD_some] at h2
  exact ⟨h1.1.2.1, by rw [h1.1.1]; omega⟩
theorem OwnW.below {w w' : World} {B : Nat} {v : Value} {ts : List RV} (h : OwnW w B v ts) (hb : Below w.heap.size w w') : OwnW w' B v ts := ownsRow_below h hb
/-- The rows' vectors, of the first k; the others none yet. -/
def fillW (ts : List RV) (k : Nat) : List Value := (ts.take k).map (fun r => Value.slice r.a r.n r.c) ++ List.replicate (ts.length - k) (.slice none 0 0)
theorem fillW_zero (ts : List RV) : fillW ts 0 = List.replicate ts.length (.slice none 0 0) := by simp [fillW]
theorem fillW_all (ts : List RV) : fillW ts ts.length = ts.map fun r => Value.slice r.a r.n r.c := by simp [fillW]
theorem fillW_length (ts : List RV) (k : Nat) (hk : k ≤ ts.length) : (fillW ts k).length = ts.length := by simp [fillW]; omega
theorem fillW_succ (ts : List RV) (k : Nat) (hk : k < ts.length) : (fillW ts k).set k (.slice (ts.getD k .dflt).a (ts.getD k .dflt).n (ts.getD k .dflt).c) = fillW ts (k + 1) := by
  unfold fillW
  have hl : ((ts.take k).map fun r => Value.slice r.a r.n r.c).length = k := by simp; omega
  rw [List.set_append_right _ _ (by omega), hl, Nat.sub_self, List.take_succ_eq_append_getElem hk, List.map_append, List.append_assoc, show ts.length - k = (ts.length - (k + 1)) + 1 by omega, List.replicate_succ, List.set_cons_zero]
  simp [List.getD_eq_getElem?_getD, List.getElem?_eq_getElem hk]
theorem make_v (n : Nat) (hn : n ≤ 1048576) (wx : World) : (Instr.makeSlice 44 (.int .i64 (n : Int)) (.int .i64 (n : Int))).run Tryd.prog wx = .ok (.slice (some ⟨wx.heap.size, 0, none⟩) n n) (wx.alloc (.cells (madeCells #[.slice none 0 0] n) 35)) := by
  obtain ⟨i0, hi0, hz0, hzs, hzb⟩ := info_parts info_u64s
  have := run_make (P := Tryd.prog) wx 44 35 i0 (.slice none 0 0) Tryd.underlying44 hi0 hz0 .i64 .i64 (n : Int) (n : Int) (by omega) (Int.le_refl _) (by rw [hzb]; omega) (by omega)
  rw [hzs] at this
  simpa [Value.cells] using this
theorem made_v (w : World) (n : Nat) (hn : n ≤ 1048576) :
    (w.alloc (.cells (madeCells #[.slice none 0 0] n) 35)).ownsRow w.heap.size 35 1 (.slice (some ⟨w.heap.size, 0, none⟩) n n) n (List.replicate n (.slice none 0 0)) := by
  refine ⟨by simp, .inr ⟨w.heap.size, n, madeCells #[.slice none 0 0] n, by simp, Nat.le_refl _, heap_alloc_new w _, by simp, by unfold maxLen; omega, by simp [size_madeCells], ?_⟩⟩
  rw [toList_madeCells_one, List.take_of_length_le (by simp)]
end Go.Proofs.YtjppopabjfncpaaDoor
namespace Go.Proofs.YtjppopabjfncpaaDoor
open Go.RowKit Go.Sort
set_option linter.unusedVariables false
set_option maxRecDepth 4000

end Go.Proofs.YtjppopabjfncpaaDoor
