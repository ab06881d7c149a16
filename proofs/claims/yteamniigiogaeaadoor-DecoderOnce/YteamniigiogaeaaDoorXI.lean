/-
  Contract of bucketlineref02.Row.
-/
import Derived.Test.YteamniigiogaeaaDoorXH
namespace Go.Proofs.YteamniigiogaeaaDoor
open Go.RowKit Go.Sort
set_option linter.unusedVariables false
set_option maxRecDepth 4000

theorem vecL_take (rs : List RV) (k : Nat) (h : k < rs.length) : vecL (rs.take (k + 1)) = xorL (vecL (rs.take k)) (rs.getD k default).xs := by
  unfold vecL
  rw [List.take_succ_eq_append_getElem h, List.foldl_append]
  simp [List.getD_eq_getElem?_getD, List.getElem?_eq_getElem h]
theorem vecL_take_len {rs : List RV} (h : ∀ r ∈ rs, r.xs.length ≤ 10) (k : Nat) : (vecL (rs.take k)).length ≤ 10 := vecL_len _ (fun r hr => h r (List.mem_of_mem_take hr))
theorem getD_map_s (rs : List RV) (k : Nat) (h : k < rs.length) : (rs.map fun r => r.s).getD k ByteArray.empty = (rs.getD k default).s := by
  simp [List.getD_eq_getElem?_getD, List.getElem?_eq_getElem h]

theorem sum_take_short {rs : List RV} (hs : shortR rs) (k : Nat) : (st (sumL ((rs.map fun r => r.s).take k))).size ≤ 1048576 := by
  rw [st_size (sumL_bytes _)]
  refine sumL_len _ (fun t ht => ?_) k
  obtain ⟨r, hr, rfl⟩ := List.mem_map.1 ht
  obtain ⟨i, hi, rfl⟩ := List.mem_iff_getElem.1 hr
  have h1 := (hs i).2
  rw [List.getD_eq_getElem?_getD, List.getElem?_eq_getElem hi] at h1
  simp only [Option.getD_some] at h1
  omega
/-- What a round of bucketlineref02.Row leaves. -/
def RowK (w wr : World) (rs : List RV) (k : Nat) (a1 : Option Addr) (c1 : Nat) (t : ByteArray) : Prop :=
  BoxW wr (w.heap.size + 1) (.slice a1 (vecL (rs.take k)).length c1) (.string t) ∧ Own wr (w.heap.size + 2) (.slice a1 (vecL (rs.take k)).length c1) (vecL (rs.take k)) ∧
  t = st (sumL ((rs.map fun r => r.s).take k)) ∧ BoxW wr w.heap.size (.slice none 0 0) (.string ⟨#[]⟩) ∧ Below w.heap.size w wr ∧ w.heap.size + 2 ≤ wr.heap.size
theorem RowK.round {w wr w1 w2 : World} {rs : List RV} {k : Nat} {a1 a2 : Option Addr} {c1 c2 : Nat} {t : ByteArray} {n2 : Nat} {r : RV} (hrk : rs.getD k default = r) (h : RowK w wr rs k a1 c1 t) (hk : k < rs.length) (hb1 : Below wr.heap.size wr w1)
    (ho : Own w1 wr.heap.size (.slice a2 n2 c2) (xorL (vecL (rs.take k)) r.xs))
    (hb2 : Below (w1.setCell ⟨w.heap.size + 1, 0, none⟩ (.slice a2 n2 c2)).heap.size (w1.setCell ⟨w.heap.size + 1, 0, none⟩ (.slice a2 n2 c2)) w2) :
    BoxW w2 (w.heap.size + 1) (.slice a2 n2 c2) (.string t) ∧ (n2 = (vecL (rs.take (k + 1))).length → RowK w (w2.setCell ⟨w.heap.size + 1, 1, none⟩ (.string (xorS t r.s))) rs (k + 1) a2 c2 (xorS t r.s)) := by
  subst hrk
  obtain ⟨hX, hO, ht, hX0, hB, hS⟩ := h
  have hX1 := ((hX.below hb1).set0 (.slice a2 n2 c2)).below hb2
  refine ⟨hX1, fun hn => ⟨?_, ?_, ?_, ?_, ?_, ?_⟩⟩
  · rw [← hn]; exact hX1.set1 _
  · rw [← hn]
    rw [← vecL_take rs k hk] at ho
    exact (((ho.mono hS).other _ _ (by omega)).below hb2).other _ _ (by omega)
  · rw [ht, xorS_st (sumL_bytes _), sumL_take _ _ (by simpa using hk), getD_map_s rs k hk]
  · exact (((hX0.below hb1).other _ _ (by omega)).below hb2).other _ _ (by omega)
  · have B1 := (below0 hB hb1).setCell (p := ⟨w.heap.size + 1, 0, none⟩) (Nat.le_succ _) (.slice a2 n2 c2)
    exact (below0 B1 hb2).setCell (p := ⟨w.heap.size + 1, 1, none⟩) (Nat.le_succ _) _
  · have := hb1.size
    have := hb2.size
    simp at this ⊢
    omega

end Go.Proofs.YteamniigiogaeaaDoor
