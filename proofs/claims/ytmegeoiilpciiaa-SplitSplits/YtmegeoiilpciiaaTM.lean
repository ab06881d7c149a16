/-
  Blocks of a text, on plain lists: how many ('kc'), what each holds ('blk'), all of them ('blocksL'), joined. No condition.
-/
import Derived.Test.YtmegeoiilpciiaaTs
namespace Go.Proofs.Ytmegeoiilpciiaa
open Go.RowKit
set_option linter.unusedVariables false
set_option maxRecDepth 4000

/-- How many blocks of z bytes n bytes have. -/
def kc (n z : Nat) : Nat := if 0 < n % z ∨ n / z = 0 then n / z + 1 else n / z
theorem kc_pos (n z : Nat) : 1 ≤ kc n z := by
  unfold kc
  generalize n / z = q
  generalize n % z = r
  split <;> rename_i h <;> omega
theorem kc_enough (n z : Nat) (hz : 0 < z) : n ≤ kc n z * z := by
  have h1 := Nat.div_add_mod n z
  have h2 := Nat.mod_lt n hz
  rw [Nat.mul_comm] at h1
  unfold kc
  split
  · rw [Nat.add_mul]; omega
  · rename_i h
    have : n % z = 0 := by omega
    omega
theorem kc_least (n z k : Nat) (hz : 0 < z) (hk : 1 ≤ k) (h : n ≤ k * z) : kc n z ≤ k := by
  have h1 := Nat.div_add_mod n z
  have h2 := Nat.mod_lt n hz
  rw [Nat.mul_comm] at h1
  unfold kc
  split
  · rename_i hc
    rcases hc with hc | hc
    · rcases Nat.lt_or_ge (n / z) k with h' | h'
      · omega
      · have := Nat.mul_le_mul_right z h'
        omega
    · omega
  · rename_i hc
    rcases Nat.lt_or_ge k (n / z) with h' | h'
    · have := Nat.mul_le_mul_right z (Nat.succ_le_of_lt h')
      rw [Nat.succ_mul] at this
      omega
    · exact h'
theorem kc_great (n z k : Nat) (hz : 0 < z) (hk : 1 ≤ k) : k < kc n z ↔ k * z < n := by
  constructor
  · intro h
    rcases Nat.lt_or_ge (k * z) n with h' | h'
    · exact h'
    · have := kc_least n z k hz hk h'
      omega
  · intro h
    have h1 := kc_enough n z hz
    rcases Nat.lt_or_ge k (kc n z) with h' | h'
    · exact h'
    · have := Nat.mul_le_mul_right z h'
      omega
theorem kc_eq (n z k : Nat) (hz : 0 < z) (hk : 1 ≤ k) (h : n ≤ k * z) (hl : k = 1 ∨ (k - 1) * z < n) : kc n z = k := by
  have h1 := kc_least n z k hz hk h
  rcases hl with rfl | hl
  · have := kc_pos n z; omega
  · by_cases e : k = 1
    · subst e; have := kc_pos n z; omega
    · have := (kc_great n z (k - 1) hz (by omega)).2 hl
      omega

/-- The error's number, and how many blocks. -/
def planE (n z : Int) : Int := if n < 0 ∨ z < 1 ∨ 64 < z then 1 else if 128 < kc n.toNat z.toNat then 2 else 0
def planK (n z : Int) : Int := if planE n z = 0 then (kc n.toNat z.toNat : Int) else 0
theorem plan_arg {n z : Int} (h : n < 0 ∨ z < 1 ∨ 64 < z) : planE n z = 1 ∧ planK n z = 0 := by
  have e : planE n z = 1 := if_pos h
  exact ⟨e, by unfold planK; rw [e]; rfl⟩
theorem plan_size {n z : Nat} (h1 : 1 ≤ z) (h2 : z ≤ 64) (h : 128 < kc n z) : planE (n : Int) (z : Int) = 2 ∧ planK (n : Int) (z : Int) = 0 := by
  have e : planE (n : Int) (z : Int) = 2 := by
    unfold planE
    rw [if_neg (by omega), if_pos (by simpa using h)]
  exact ⟨e, by unfold planK; rw [e]; rfl⟩
theorem plan_ok {n z : Nat} (h1 : 1 ≤ z) (h2 : z ≤ 64) (h : kc n z ≤ 128) : planE (n : Int) (z : Int) = 0 ∧ planK (n : Int) (z : Int) = (kc n z : Int) := by
  have e : planE (n : Int) (z : Int) = 0 := by
    unfold planE
    rw [if_neg (by omega), if_neg (by simp; omega)]
  exact ⟨e, by unfold planK; rw [e]; simp⟩
/-- What is asked of n and z where there are blocks. -/
theorem plan_yes {n : Nat} {z : Int} (h : planE (n : Int) z = 0) : ∃ Z : Nat, z = (Z : Int) ∧ 1 ≤ Z ∧ Z ≤ 64 ∧ kc n Z ≤ 128 := by
  unfold planE at h
  split at h
  · omega
  · rename_i hc
    obtain ⟨Z, rfl⟩ : ∃ Z : Nat, z = (Z : Int) := ⟨z.toNat, by omega⟩
    split at h
    · omega
    · rename_i hk
      simp only [Int.toNat_natCast] at hk
      exact ⟨Z, rfl, by omega, by omega, by omega⟩
theorem planE_cases (n z : Int) : planE n z = 0 ∨ planE n z = 1 ∨ planE n z = 2 := by
  unfold planE
  split
  · exact .inr (.inl rfl)
  · split
    · exact .inr (.inr rfl)
    · exact .inl rfl

/-- The block i of xs, zeros behind. -/
def pad (z : Nat) (t : List Nat) : List Nat := t ++ List.replicate (z - t.length) 0
def blk (xs : List Nat) (z i : Nat) : List Nat := pad z ((xs.drop (i * z)).take z)
def blocksL (xs : List Nat) (z k : Nat) : List ByteArray := (List.range k).map fun i => st (blk xs z i)
theorem pad_length (z : Nat) (t : List Nat) (h : t.length ≤ z) : (pad z t).length = z := by
  unfold pad
  rw [List.length_append, List.length_replicate]
  omega
theorem blk_length (xs : List Nat) (z i : Nat) : (blk xs z i).length = z := pad_length _ _ (List.length_take_le _ _)
theorem blocksL_length (xs : List Nat) (z k : Nat) : (blocksL xs z k).length = k := by simp [blocksL]
theorem blocksL_succ (xs : List Nat) (z k : Nat) : blocksL xs z (k + 1) = blocksL xs z k ++ [st (blk xs z k)] := by
  simp [blocksL, List.range_succ]
theorem pad_bytes {z : Nat} {t : List Nat} (h : bytes t) : bytes (pad z t) := by
  intro x hx
  rcases List.mem_append.1 hx with hx | hx
  · exact h x hx
  · rw [(List.mem_replicate.1 hx).2]; decide
theorem bytes_take {xs : List Nat} (h : bytes xs) (k : Nat) : bytes (xs.take k) := fun x hx => h x (List.mem_of_mem_take hx)
theorem bytes_drop {xs : List Nat} (h : bytes xs) (k : Nat) : bytes (xs.drop k) := fun x hx => h x (List.mem_of_mem_drop hx)
theorem blk_bytes {xs : List Nat} (h : bytes xs) (z i : Nat) : bytes (blk xs z i) := pad_bytes (bytes_take (bytes_drop h _) _)
theorem getD_pad (z : Nat) (t : List Nat) (j : Nat) : (pad z t).getD j 0 = t.getD j 0 := by
  unfold pad
  rw [List.getD_eq_getElem?_getD, List.getD_eq_getElem?_getD]
  by_cases h : j < t.length
  · rw [List.getElem?_append_left h]
  · rw [List.getElem?_append_right (by omega), List.getElem?_eq_none (l := t) (by omega), List.getElem?_replicate]
    split <;> rfl
theorem getD_take (xs : List Nat) (k j : Nat) : (xs.take k).getD j 0 = if j < k then xs.getD j 0 else 0 := by
  rw [List.getD_eq_getElem?_getD, List.getD_eq_getElem?_getD, List.getElem?_take]
  split <;> rfl
theorem getD_drop (xs : List Nat) (k j : Nat) : (xs.drop k).getD j 0 = xs.getD (k + j) 0 := by
  rw [List.getD_eq_getElem?_getD, List.getD_eq_getElem?_getD, List.getElem?_drop]
theorem blk_getD (xs : List Nat) (z i j : Nat) (h : j < z) : (blk xs z i).getD j 0 = xs.getD (i * z + j) 0 := by
  unfold blk
  rw [getD_pad, getD_take, if_pos h, getD_drop]
/-- Cut out of the text with all zeros behind it. -/
theorem blk_ref (xs : List Nat) (z k i : Nat) (hi : i < k) : ((pad (k * z) xs).drop (i * z)).take z = blk xs z i := by
  have h1 : (i + 1) * z ≤ k * z := Nat.mul_le_mul_right z hi
  rw [Nat.add_mul] at h1
  apply ext_getD
  · rw [blk_length, List.length_take, List.length_drop]
    have : k * z ≤ (pad (k * z) xs).length := by
      unfold pad
      rw [List.length_append, List.length_replicate]
      omega
    omega
  · intro j hj
    have hj' : j < z := by
      rw [List.length_take] at hj
      omega
    rw [getD_take, if_pos hj', getD_drop, getD_pad, blk_getD _ _ _ _ hj']
/-- All blocks, one behind the other. -/
def joinL (ss : List ByteArray) : List Nat := ss.flatMap tx
theorem joinL_snoc (ss : List ByteArray) (s : ByteArray) : joinL (ss ++ [s]) = joinL ss ++ tx s := by simp [joinL]
theorem joinL_bytes (ss : List ByteArray) : bytes (joinL ss) := by
  intro x hx
  obtain ⟨s, _, hs⟩ := List.mem_flatMap.1 hx
  exact tx_bytes s x hs
theorem joinL_take (ss : List ByteArray) (k : Nat) (h : k < ss.length) : joinL (ss.take (k + 1)) = joinL (ss.take k) ++ tx (ss.getD k ByteArray.empty) := by
  rw [List.take_succ_eq_append_getElem h, joinL_snoc]
  simp [List.getD_eq_getElem?_getD, List.getElem?_eq_getElem h]
theorem joinL_le (ss : List ByteArray) (k : Nat) : (joinL (ss.take k)).length ≤ (joinL ss).length := by
  conv => rhs; rw [← List.take_append_drop k ss]
  unfold joinL
  rw [List.flatMap_append, List.length_append]
  omega
theorem joinL_blocks {xs : List Nat} (hx : bytes xs) (z : Nat) : ∀ k, k * z ≤ xs.length → joinL (blocksL xs z k) = xs.take (k * z)
  | 0, _ => by simp [blocksL, joinL]
  | k + 1, h => by
    rw [Nat.add_mul, Nat.one_mul] at h
    rw [blocksL_succ, joinL_snoc, joinL_blocks hx z k (by omega), tx_st (blk_bytes hx z k), Nat.add_mul, Nat.one_mul, List.take_add]
    congr 1
    unfold blk pad
    rw [List.length_take, List.length_drop]
    rw [show z - min z (xs.length - k * z) = 0 by omega]
    simp
/-- Joined, and cut to what they were. -/
theorem join_back {xs : List Nat} (hx : bytes xs) (z k : Nat) (hk : 1 ≤ k) (h : xs.length ≤ k * z) (hl : k = 1 ∨ (k - 1) * z < xs.length) : (joinL (blocksL xs z k)).take xs.length = xs := by
  obtain ⟨j, rfl⟩ : ∃ j, k = j + 1 := ⟨k - 1, by omega⟩
  have hj : j * z ≤ xs.length := by
    rcases hl with hl | hl
    · obtain rfl : j = 0 := by omega
      omega
    · simp at hl; omega
  rw [blocksL_succ, joinL_snoc, joinL_blocks hx z j hj, tx_st (blk_bytes hx z j)]
  rw [Nat.add_mul, Nat.one_mul] at h
  have e : (xs.drop (j * z)).take z = xs.drop (j * z) := List.take_of_length_le (by rw [List.length_drop]; omega)
  unfold blk pad
  rw [e, ← List.append_assoc, List.take_append_drop, List.take_append_of_le_length (Nat.le_refl _), List.take_length]
theorem joinL_total (xs : List Nat) (z : Nat) : ∀ k, (joinL (blocksL xs z k)).length = k * z
  | 0 => by simp [blocksL, joinL]
  | k + 1 => by
    rw [blocksL_succ, joinL_snoc, List.length_append, joinL_total xs z k, tx_length, st_len, blk_length, Nat.add_mul, Nat.one_mul]
/-- A byte 0 behind it. -/
theorem blk_more (xs : List Nat) (z i : Nat) : blk (xs ++ [0]) z i = blk xs z i := by
  apply ext_getD
  · rw [blk_length, blk_length]
  · intro j hj
    rw [blk_length] at hj
    rw [blk_getD _ _ _ _ hj, blk_getD _ _ _ _ hj]
    rw [List.getD_eq_getElem?_getD, List.getD_eq_getElem?_getD]
    rcases Nat.lt_trichotomy (i * z + j) xs.length with h | h | h
    · rw [List.getElem?_append_left h]
    · rw [List.getElem?_append_right (by omega), List.getElem?_eq_none (l := xs) (by omega)]
      simp [h]
    · rw [List.getElem?_eq_none (by simp; omega), List.getElem?_eq_none (by omega)]
theorem blocks_more (xs : List Nat) (z k : Nat) : blocksL (xs ++ [0]) z k = blocksL xs z k := by
  unfold blocksL
  congr 1
  funext i
  rw [blk_more]
theorem kc_more (n z : Nat) (hz : 0 < z) (h : n < kc n z * z) : kc (n + 1) z = kc n z := by
  apply kc_eq _ _ _ hz (kc_pos n z) (by omega)
  by_cases e : kc n z = 1
  · exact .inl e
  · right
    have := (kc_great n z (kc n z - 1) hz (by have := kc_pos n z; omega)).1 (by have := kc_pos n z; omega)
    omega
theorem shorts_blocks (xs : List Nat) (z k : Nat) (hz : z ≤ 64) : shorts (blocksL xs z k) := by
  intro s hs
  obtain ⟨i, _, rfl⟩ := List.mem_map.1 hs
  rw [st_len, blk_length]
  omega
theorem blocks_get (xs : List Nat) (z k i : Nat) (h : i < k) : (blocksL xs z k).getD i ByteArray.empty = st (blk xs z i) := by
  unfold blocksL
  rw [List.getD_eq_getElem?_getD, List.getElem?_map, List.getElem?_range h]
  rfl
end Go.Proofs.Ytmegeoiilpciiaa
