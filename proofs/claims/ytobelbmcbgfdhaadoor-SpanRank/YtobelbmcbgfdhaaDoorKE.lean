/-
  What span.Express tells, on plain lists. Of no program but for the rows' memory; words below 2^64.
-/
import Derived.Test.YtobelbmcbgfdhaaDoorKD
import Derived.Test.YtobelbmcbgfdhaaDoorFG
namespace Go.Proofs.YtobelbmcbgfdhaaDoor
open Go.RowKit Go.Sort
set_option linter.unusedVariables false

theorem IntsAt.lt {w : World} {a : Option Addr} {n : Nat} {xs : List Nat} (h : IntsAt w a n xs) : n = 0 ∨ ∀ ad, a = some ad → ad.block < w.heap.size := by
  rcases h.2 with h0 | ⟨b, off, rfl, hc⟩
  · exact .inl h0
  · by_cases h0 : n = 0
    · exact .inl h0
    · right
      intro ad e
      simp only [Option.some.injEq] at e
      subst e
      exact World.block_lt_of_cell? w _ (hc 0 (by omega))
/-- How many words a row with as many marks as bits has. -/
def sizeL (n : Nat) : Nat := (2 * n + 63) / 64
def markRow (rs : List (List Nat)) (ps fs : List Nat) (s i : Nat) : List Nat := setB (pickL (zeros s) (rs.getD (ps.getD i 0) []) fs ps.length) (ps.length + i) true
def marksL (rs : List (List Nat)) (ps fs : List Nat) (s k : Nat) : List (List Nat) := (List.range (ps.length + 1)).map fun i => if i < k then markRow rs ps fs s i else zeros s
theorem marks_len (rs : List (List Nat)) (ps fs : List Nat) (s k : Nat) : (marksL rs ps fs s k).length = ps.length + 1 := by simp [marksL]
theorem marks_get (rs : List (List Nat)) (ps fs : List Nat) (s k i : Nat) (hi : i < ps.length + 1) : (marksL rs ps fs s k).getD i [] = if i < k then markRow rs ps fs s i else zeros s := by
  simp [marksL, List.getD_eq_getElem?_getD, hi]
theorem marks_zero (rs : List (List Nat)) (ps fs : List Nat) (s : Nat) : marksL rs ps fs s 0 = List.replicate (ps.length + 1) (zeros s) := by
  apply List.ext_getElem
  · simp [marksL]
  · intro i h1 h2; simp [marksL]
theorem marks_set (rs : List (List Nat)) (ps fs : List Nat) (s k : Nat) (hk : k < ps.length + 1) : (marksL rs ps fs s k).set k (markRow rs ps fs s k) = marksL rs ps fs s (k + 1) := by
  apply List.ext_getElem
  · simp [marksL]
  · intro i h1 h2
    rw [List.getElem_set]
    by_cases e : k = i
    · subst e; simp [marksL]
    · rw [if_neg e]
      simp only [marksL, List.getElem_map, List.getElem_range]
      by_cases h3 : i < k
      · rw [if_pos h3, if_pos (by omega)]
      · rw [if_neg h3, if_neg (by omega)]
theorem markRow_small (rs : List (List Nat)) (ps fs : List Nat) (s i : Nat) : smalls (markRow rs ps fs s i) := setB_small (pick_small (zeros_small s) _ _ _) _ _
theorem markRow_len (rs : List (List Nat)) (ps fs : List Nat) (s i : Nat) : (markRow rs ps fs s i).length = s := by unfold markRow; rw [setB_length, pick_len, zeros_len]
theorem marks_fit (rs : List (List Nat)) (ps fs : List Nat) (s k j : Nat) (q : List Nat) (hq : smalls q) (hql : q.length = s) (M : Nat) (hs : s ≤ M) : Fit M (((marksL rs ps fs s k).set j q).take k) := by
  intro x hx
  rcases List.mem_or_eq_of_mem_set (List.mem_of_mem_take hx) with hx | rfl
  · obtain ⟨i, _, rfl⟩ := List.mem_map.1 hx
    split
    · exact ⟨markRow_small _ _ _ _ _, by rw [markRow_len]; exact hs⟩
    · exact ⟨zeros_small s, by rw [zeros_len]; exact hs⟩
  · exact ⟨hq, by omega⟩
theorem marks_take (rs : List (List Nat)) (ps fs : List Nat) (s : Nat) (q : List Nat) : ((marksL rs ps fs s ps.length).set ps.length q).take ps.length = (marksL rs ps fs s ps.length).take ps.length := by
  apply List.ext_getElem
  · simp
  · intro i h1 h2
    have hi : i < ps.length := by
      rw [List.length_take] at h2
      omega
    rw [List.getElem_take, List.getElem_take, List.getElem_set, if_neg (by omega)]
/-- What Express tells of a row that is in the span. -/
def exprL (rs : List (List Nat)) (xs : List Nat) : List Nat :=
  chosenL (keepL rs rs.length) (fun i => getB (reduceL (broughtL ((marksL rs (keepL rs rs.length) (firstsL (broughtL rs)) (sizeL (keepL rs rs.length).length) (keepL rs rs.length).length).take (keepL rs rs.length).length))
    (pickL (zeros (sizeL (keepL rs rs.length).length)) xs (firstsL (broughtL rs)) (keepL rs rs.length).length)) ((keepL rs rs.length).length + i)) (keepL rs rs.length).length
theorem size_ok (n : Nat) : 2 * n ≤ 64 * sizeL n := by unfold sizeL; omega
theorem size_le (n : Nat) (h : n ≤ 100000) : sizeL n ≤ 4000 := by unfold sizeL; omega
theorem brought_pos {M : Nat} {rs : List (List Nat)} (h : Fit M rs) (i : Nat) (hi : i < (broughtL rs).length) : 0 ≤ firstI ((broughtL rs).getD i []) := by
  have h1 := (brought_fit h).getD i
  have h2 : val ((broughtL rs).getD i []) ≠ 0 := by
    refine (brought_tri h).1 _ (List.mem_map.2 ⟨_, ?_, rfl⟩)
    simp [List.getD_eq_getElem?_getD, List.getElem?_eq_getElem hi]
  rw [firstI_val h1.1, if_neg h2]
  omega
theorem firsts_low {M : Nat} {rs : List (List Nat)} (h : Fit M rs) : firstsL (broughtL rs) = (broughtL rs).map fun b => Ech.low (val b) := by
  unfold firstsL
  apply List.map_congr_left
  intro b hb
  have h1 := (brought_fit h) b hb
  have h2 : val b ≠ 0 := (brought_tri h).1 _ (List.mem_map.2 ⟨b, hb, rfl⟩)
  rw [firstI_val h1.1, if_neg h2]
  rfl
theorem firsts_small {rs : List (List Nat)} (h : Fit 1048576 rs) (i : Nat) : (firstsL (broughtL rs)).getD i 0 ≤ 1000000000 := by
  by_cases hi : i < (broughtL rs).length
  · rw [firstsL_get _ i hi]
    have h1 := (brought_fit h).getD i
    have := firstI_le h1.1
    omega
  · rw [getD_of_le (by rw [firstsL_len]; omega)]
    omega
theorem brought_count (rs : List (List Nat)) : (broughtL rs).length = (keepL rs rs.length).length := by rw [keep_brought rs _ (Nat.le_refl _), List.take_length]
/-- .. it is the choice. -/
theorem expr_choice {rs : List (List Nat)} (hf : Fit 1048576 rs) (hn : rs.length ≤ 100000) {xs : List Nat} (hx : smalls xs) {c : Nat} (hc : Choice rs xs c) : exprL rs xs = chosenL (keepL rs rs.length) (fun i => c.testBit i) (keepL rs rs.length).length := by
  have hnl := keep_len rs rs.length
  have hs1 := size_ok (keepL rs rs.length).length
  have hs2 := size_le (keepL rs rs.length).length (by omega)
  unfold exprL
  refine chosen_congr _ _ fun i hi => ?_
  refine express_bits hf (M' := 4000) (fs := firstsL (broughtL rs)) (firsts_low hf) ?_ ?_ ?_ (pick_small (zeros_small _) _ _ _) (pick_val hx (by omega)) (by rw [pick_len, zeros_len]; exact hs2) hc i
  · rw [List.length_take, marks_len]; omega
  · rw [← marks_take _ _ _ _ []]
    intro x hx
    have hx' := List.mem_of_mem_take hx
    obtain ⟨j, hj, rfl⟩ := List.getElem_of_mem hx
    rw [List.length_take, List.length_set, marks_len] at hj
    rw [List.getElem_take, List.getElem_set, if_neg (by omega)]
    simp only [marksL, List.getElem_map, List.getElem_range]
    split
    · exact ⟨markRow_small _ _ _ _ _, by rw [markRow_len]; exact hs2⟩
    · exact ⟨zeros_small _, by rw [zeros_len]; exact hs2⟩
  · intro j hj
    rw [List.getD_eq_getElem?_getD, List.getElem?_take_of_lt hj, ← List.getD_eq_getElem?_getD, marks_get _ _ _ _ _ _ (by omega), if_pos hj]
    exact mark_val (hf.getD _).1 (by omega) (by omega)
end Go.Proofs.YtobelbmcbgfdhaaDoor
