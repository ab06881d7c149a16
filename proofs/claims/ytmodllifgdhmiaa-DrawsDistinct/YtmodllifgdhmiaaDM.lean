/-
  Plain lists for draws: the n-th draw of a list ('drawN'), numbers taken one after the other of those that are left ('leftL', 'picksL'), the same rising ('distL'), and what is taken by marks ('untaken', 'marked'). No condition.
-/
import Derived.Test.YtmodllifgdhmiaaMem
namespace Go.Proofs.Ytmodllifgdhmiaa
set_option linter.unusedVariables false
set_option maxRecDepth 4000

/-- The n-th draw, from 1 on. -/
def drawN (L : List Nat) (n : Nat) : Nat := if n ≤ L.length then L.getD (n - 1) 0 else n * 11400714819323198485 % 18446744073709551616
theorem drawN_in {L : List Nat} {n : Nat} (h : n < L.length) : drawN L (n + 1) = L.getD n 0 := by
  unfold drawN
  rw [if_pos (by omega), Nat.add_sub_cancel]
theorem drawN_out {L : List Nat} {n : Nat} (h : L.length < n) : drawN L n = n * 11400714819323198485 % 18446744073709551616 := by
  unfold drawN
  rw [if_neg (by omega)]
theorem drawN_lt {L : List Nat} (h : smalls L) (n : Nat) : drawN L n < 18446744073709551616 := by
  unfold drawN
  split
  · exact h.get _
  · omega

/-- What is left of zs when k were taken, N draws having been used ahead. -/
def leftL (L : List Nat) (N : Nat) (zs : List Nat) : Nat → List Nat
  | 0 => zs
  | k + 1 => (leftL L N zs k).eraseIdx (drawN L (N + k + 1) % (leftL L N zs k).length)
/-- What was taken, one behind the other. -/
def picksL (L : List Nat) (N : Nat) (zs : List Nat) : Nat → List Nat
  | 0 => []
  | k + 1 => picksL L N zs k ++ [(leftL L N zs k).getD (drawN L (N + k + 1) % (leftL L N zs k).length) 0]
theorem leftL_length (L : List Nat) (N : Nat) (zs : List Nat) : ∀ k, k ≤ zs.length → (leftL L N zs k).length = zs.length - k
  | 0, _ => rfl
  | k + 1, h => by
    have ih := leftL_length L N zs k (by omega)
    have hlt : drawN L (N + k + 1) % (leftL L N zs k).length < (leftL L N zs k).length := Nat.mod_lt _ (by omega)
    show ((leftL L N zs k).eraseIdx _).length = _
    rw [List.length_eraseIdx, if_pos hlt, ih]
    omega
theorem picksL_length (L : List Nat) (N : Nat) (zs : List Nat) : ∀ k, (picksL L N zs k).length = k
  | 0 => rfl
  | k + 1 => by
    show (picksL L N zs k ++ [_]).length = _
    rw [List.length_append, picksL_length L N zs k]; rfl
theorem erase_perm (l : List Nat) (j : Nat) (h : j < l.length) : (l.getD j 0 :: l.eraseIdx j).Perm l := by
  rw [List.eraseIdx_eq_take_drop_succ]
  have e : l = l.take j ++ l.getD j 0 :: l.drop (j + 1) := by
    rw [List.getD_eq_getElem?_getD, List.getElem?_eq_getElem h]
    simp
  exact (List.perm_middle.symm).trans (List.Perm.of_eq e.symm)
theorem picks_perm (L : List Nat) (N : Nat) (zs : List Nat) : ∀ k, k ≤ zs.length → (picksL L N zs k ++ leftL L N zs k).Perm zs
  | 0, _ => List.Perm.refl _
  | k + 1, h => by
    have ih := picks_perm L N zs k (by omega)
    have hl := leftL_length L N zs k (by omega)
    have hlt : drawN L (N + k + 1) % (leftL L N zs k).length < (leftL L N zs k).length := Nat.mod_lt _ (by omega)
    show ((picksL L N zs k ++ [_]) ++ (leftL L N zs k).eraseIdx _).Perm zs
    rw [List.append_assoc]
    exact (List.Perm.append_left _ (erase_perm _ _ hlt)).trans ih
/-- What was taken of the numbers below n, rising. -/
def distL (L : List Nat) (N n k : Nat) : List Nat := (List.range n).filter fun i => decide (i ∉ leftL L N (List.range n) k)
theorem dist_perm (L : List Nat) (N n k : Nat) (h : k ≤ n) : (picksL L N (List.range n) k).Perm (distL L N n k) := by
  have hp := picks_perm L N (List.range n) k (by simpa using h)
  have hn := hp.symm.nodup List.nodup_range
  obtain ⟨_, _, hd⟩ := List.nodup_append.1 hn
  have hf := hp.filter fun i => decide (i ∉ leftL L N (List.range n) k)
  have h1 : (picksL L N (List.range n) k).filter (fun i => decide (i ∉ leftL L N (List.range n) k)) = picksL L N (List.range n) k := List.filter_eq_self.2 fun a ha => by simpa using fun hb => hd a ha a hb rfl
  have h2 : (leftL L N (List.range n) k).filter (fun i => decide (i ∉ leftL L N (List.range n) k)) = [] := List.filter_eq_nil_iff.2 fun a ha => by simp [ha]
  rw [List.filter_append, h1, h2, List.append_nil] at hf
  exact hf
theorem distL_length (L : List Nat) (N n k : Nat) (h : k ≤ n) : (distL L N n k).length = k := by
  rw [← (dist_perm L N n k h).length_eq, picksL_length]
def castZ (l : List Nat) : List Int := l.map fun (x : Nat) => (x : Int)
theorem castZ_length (l : List Nat) : (castZ l).length = l.length := by simp [castZ]
theorem castZ_getD (l : List Nat) (i : Nat) : (castZ l).getD i 0 = ((l.getD i 0 : Nat) : Int) := by
  simp only [castZ, List.getD_eq_getElem?_getD, List.getElem?_map]
  cases l[i]? <;> rfl
theorem castZ_append (l m : List Nat) : castZ (l ++ m) = castZ l ++ castZ m := by simp [castZ]
theorem castZ_erase (l : List Nat) (j : Nat) : castZ (l.eraseIdx j) = (castZ l).eraseIdx j := by
  simp [castZ, List.eraseIdx_eq_take_drop_succ, List.map_take, List.map_drop]
theorem dist_sort (L : List Nat) (N n k : Nat) (h : k ≤ n) : (castZ (picksL L N (List.range n) k)).mergeSort (fun x y => decide (x ≤ y)) = castZ (distL L N n k) := by
  have hp : ((castZ (picksL L N (List.range n) k)).mergeSort fun x y => decide (x ≤ y)).Perm (castZ (distL L N n k)) := (List.mergeSort_perm _ _).trans ((dist_perm L N n k h).map _)
  refine List.Perm.eq_of_pairwise (le := fun x y : Int => x ≤ y) (fun a b _ _ h1 h2 => Int.le_antisymm h1 h2) ?_ ?_ hp
  · have := List.pairwise_mergeSort (le := fun x y : Int => decide (x ≤ y)) (fun a b c h1 h2 => by simp at *; omega) (fun a b => by simp; omega) (castZ (picksL L N (List.range n) k))
    exact this.imp fun h => by simpa using h
  · have : (distL L N n k).Pairwise (· < ·) := List.Pairwise.filter _ List.pairwise_lt_range
    exact List.Pairwise.map _ (fun a b hab => by omega) this
theorem distL_rise (L : List Nat) (N n k i : Nat) (h : i + 1 < (distL L N n k).length) : (distL L N n k).getD i 0 < (distL L N n k).getD (i + 1) 0 := by
  have hr : (distL L N n k).Pairwise (· < ·) := List.Pairwise.filter _ List.pairwise_lt_range
  have := List.pairwise_iff_getElem.1 hr i (i + 1) (by omega) h (by omega)
  simpa [List.getD_eq_getElem?_getD, List.getElem?_eq_getElem h, List.getElem?_eq_getElem (show i < (distL L N n k).length by omega)] using this
theorem distL_lt (L : List Nat) (N n k i : Nat) (h : i < (distL L N n k).length) : (distL L N n k).getD i 0 < n := by
  have hm : (distL L N n k)[i] ∈ distL L N n k := List.getElem_mem h
  have := (List.mem_filter.1 hm).1
  simpa [List.getD_eq_getElem?_getD, List.getElem?_eq_getElem h] using this

/-- The numbers below n that bear no mark. -/
def untaken (bs : List Bool) (n : Nat) : List Nat := (List.range n).filter fun i => !bs.getD i false
/-- .. and those that do. -/
def marked (bs : List Bool) (n : Nat) : List Nat := (List.range n).filter fun i => bs.getD i false
theorem untaken_no {bs : List Bool} {n : Nat} (h : bs.getD n false = true) : untaken bs (n + 1) = untaken bs n := by
  unfold untaken
  rw [List.range_succ, List.filter_append, List.filter_cons, if_neg (by rw [h]; simp)]
  simp
theorem untaken_yes {bs : List Bool} {n : Nat} (h : bs.getD n false = false) : untaken bs (n + 1) = untaken bs n ++ [n] := by
  unfold untaken
  rw [List.range_succ, List.filter_append, List.filter_cons, if_pos (by rw [h]; rfl)]
  simp
theorem marked_yes {bs : List Bool} {n : Nat} (h : bs.getD n false = true) : marked bs (n + 1) = marked bs n ++ [n] := by
  unfold marked
  rw [List.range_succ, List.filter_append, List.filter_cons, if_pos h]
  simp
theorem marked_no {bs : List Bool} {n : Nat} (h : bs.getD n false = false) : marked bs (n + 1) = marked bs n := by
  unfold marked
  rw [List.range_succ, List.filter_append, List.filter_cons, if_neg (by rw [h]; simp)]
  simp
theorem marked_le (bs : List Bool) (n : Nat) : (marked bs n).length ≤ n := by
  have := List.length_filter_le (fun i => bs.getD i false) (List.range n)
  rwa [List.length_range] at this
theorem range_cut {n t : Nat} (h : t < n) : List.range n = List.range t ++ t :: List.range' (t + 1) (n - t - 1) := by
  rw [List.range_eq_range', List.range_eq_range']
  have h1 : List.range' 0 n = List.range' 0 (t + (n - t)) := by rw [show t + (n - t) = n by omega]
  rw [h1, ← List.range'_append, Nat.one_mul, Nat.zero_add]
  congr 1
  rw [show n - t = (n - t - 1) + 1 by omega, List.range'_succ]
  rfl
theorem set_other (bs : List Bool) (t i : Nat) (h : i ≠ t) : (bs.set t true).getD i false = bs.getD i false := by
  simp only [List.getD_eq_getElem?_getD]
  rw [List.getElem?_set_ne (by omega)]
theorem set_same (bs : List Bool) (t : Nat) (h : t < bs.length) : (bs.set t true).getD t false = true := by
  simp [List.getD_eq_getElem?_getD, h]
/-- The number that is marked is the one that so many untaken ones stand ahead of. -/
theorem untaken_set (bs : List Bool) (n t : Nat) (hl : bs.length = n) (h : t < n) (hf : bs.getD t false = false) :
    untaken (bs.set t true) n = (untaken bs n).eraseIdx (untaken bs t).length := by
  unfold untaken
  rw [range_cut h, List.filter_append, List.filter_append, List.filter_cons, List.filter_cons, if_neg (by rw [set_same bs t (by omega)]; simp), if_pos (by rw [hf]; rfl),
    List.eraseIdx_append_of_length_le (Nat.le_refl _), Nat.sub_self, List.eraseIdx_cons_zero]
  congr 1
  · refine List.filter_congr fun i hi => ?_
    rw [set_other bs t i (by have := List.mem_range.1 hi; omega)]
  · refine List.filter_congr fun i hi => ?_
    obtain ⟨j, _, rfl⟩ := List.mem_range'.1 hi
    rw [set_other bs t _ (by omega)]
theorem marked_dist {L : List Nat} {N n k : Nat} {bs : List Bool} (h : untaken bs n = leftL L N (List.range n) k) : marked bs n = distL L N n k := by
  unfold marked distL
  refine List.filter_congr fun i hi => ?_
  rw [← h]
  unfold untaken
  cases hb : bs.getD i false
  · simp only [List.mem_filter, hi, hb, true_and]
    simp
  · simp only [List.mem_filter, hi, hb, true_and]
    simp
theorem untaken_new (n : Nat) : untaken (List.replicate n false) n = List.range n := by
  unfold untaken
  refine List.filter_eq_self.2 fun a ha => ?_
  simp [List.getD_eq_getElem?_getD, List.mem_range.1 ha]
end Go.Proofs.Ytmodllifgdhmiaa
