/-
  Blocks of a text, on plain lists: how many ('kc'), what each holds ('blk'), all of them ('blocksL'), joined. No condition.
  Contracts of split.Plan and bucketlineref09.Plan: for every two ints. Of bucketlineref02.Texts: for every two slices of texts.
  Contracts of internal/stringslite.Clone and strings.Clone: for every text of at most 2^20 bytes.
  Numbers and their bytes, the highest first, on plain lists. No condition.
-/
import Derived.Test.YtigmckjjoabfeaaDoorM3
import Derived.Deep.QuietTactic
import Derived.BigQuiet
import Derived.Test.YtigmckjjoabfeaaDoorM2
import Derived.Lib.UnsafeStr
import Derived.Laws.Concat
namespace Go.Proofs.YtigmckjjoabfeaaDoor
open Go.RowKit
set_option linter.unusedVariables false
set_option maxRecDepth 4000

/-- How many blocks of z bytes n bytes have. -/
def kc (n z : Nat) : Nat := if 0 < n % z ∨ n / z = 0 then n / z + 1 else n / z
theorem kc_pos (n z : Nat) : 1 ≤ kc n z := by
  unfold kc
  generalize n / z = q
  generalize n % z = r
  split <;> rename_i h <;> omega
theorem kc_enough (n z : Nat) (hz : 0 < z) : n ≤ kc n z * z := by
  have h1 := Nat.div_add_mod n z
  have h2 := Nat.mod_lt n hz
  rw [Nat.mul_comm] at h1
  unfold kc
  split
  · rw [Nat.add_mul]; omega
  · rename_i h
    have : n % z = 0 := by omega
    omega
theorem kc_least (n z k : Nat) (hz : 0 < z) (hk : 1 ≤ k) (h : n ≤ k * z) : kc n z ≤ k := by
  have h1 := Nat.div_add_mod n z
  have h2 := Nat.mod_lt n hz
  rw [Nat.mul_comm] at h1
  unfold kc
  split
  · rename_i hc
    rcases hc with hc | hc
    · rcases Nat.lt_or_ge (n / z) k with h' | h'
      · omega
      · have := Nat.mul_le_mul_right z h'
        omega
    · omega
  · rename_i hc
    rcases Nat.lt_or_ge k (n / z) with h' | h'
    · have := Nat.mul_le_mul_right z (Nat.succ_le_of_lt h')
      rw [Nat.succ_mul] at this
      omega
    · exact h'
theorem kc_great (n z k : Nat) (hz : 0 < z) (hk : 1 ≤ k) : k < kc n z ↔ k * z < n := by
  constructor
  · intro h
    rcases Nat.lt_or_ge (k * z) n with h' | h'
    · exact h'
    · have := kc_least n z k hz hk h'
      omega
  · intro h
    have h1 := kc_enough n z hz
    rcases Nat.lt_or_ge k (kc n z) with h' | h'
    · exact h'
    · have := Nat.mul_le_mul_right z h'
      omega
theorem kc_eq (n z k : Nat) (hz : 0 < z) (hk : 1 ≤ k) (h : n ≤ k * z) (hl : k = 1 ∨ (k - 1) * z < n) : kc n z = k := by
  have h1 := kc_least n z k hz hk h
  rcases hl with rfl | hl
  · have := kc_pos n z; omega
  · by_cases e : k = 1
    · subst e; have := kc_pos n z; omega
    · have := (kc_great n z (k - 1) hz (by omega)).2 hl
      omega

/-- The error's number, and how many blocks. -/
def planE (n z : Int) : Int := if n < 0 ∨ z < 1 ∨ 64 < z then 1 else if 128 < kc n.toNat z.toNat then 2 else 0
def planK (n z : Int) : Int := if planE n z = 0 then (kc n.toNat z.toNat : Int) else 0
theorem plan_arg {n z : Int} (h : n < 0 ∨ z < 1 ∨ 64 < z) : planE n z = 1 ∧ planK n z = 0 := by
  have e : planE n z = 1 := if_pos h
  exact ⟨e, by unfold planK; rw [e]; rfl⟩
theorem plan_size {n z : Nat} (h1 : 1 ≤ z) (h2 : z ≤ 64) (h : 128 < kc n z) : planE (n : Int) (z : Int) = 2 ∧ planK (n : Int) (z : Int) = 0 := by
  have e : planE (n : Int) (z : Int) = 2 := by
    unfold planE
    rw [if_neg (by omega), if_pos (by simpa using h)]
  exact ⟨e, by unfold planK; rw [e]; rfl⟩
theorem plan_ok {n z : Nat} (h1 : 1 ≤ z) (h2 : z ≤ 64) (h : kc n z ≤ 128) : planE (n : Int) (z : Int) = 0 ∧ planK (n : Int) (z : Int) = (kc n z : Int) := by
  have e : planE (n : Int) (z : Int) = 0 := by
    unfold planE
    rw [if_neg (by omega), if_neg (by simp; omega)]
  exact ⟨e, by unfold planK; rw [e]; simp⟩
/-- What is asked of n and z where there are blocks. -/
theorem plan_yes {n : Nat} {z : Int} (h : planE (n : Int) z = 0) : ∃ Z : Nat, z = (Z : Int) ∧ 1 ≤ Z ∧ Z ≤ 64 ∧ kc n Z ≤ 128 := by
  unfold planE at h
  split at h
  · omega
  · rename_i hc
    obtain ⟨Z, rfl⟩ : ∃ Z : Nat, z = (Z : Int) := ⟨z.toNat, by omega⟩
    split at h
    · omega
    · rename_i hk
      simp only [Int.toNat_natCast] at hk
      exact ⟨Z, rfl, by omega, by omega, by omega⟩
theorem planE_cases (n z : Int) : planE n z = 0 ∨ planE n z = 1 ∨ planE n z = 2 := by
  unfold planE
  split
  · exact .inr (.inl rfl)
  · split
    · exact .inr (.inr rfl)
    · exact .inl rfl

/-- The block i of xs, zeros behind. -/
def pad (z : Nat) (t : List Nat) : List Nat := t ++ List.replicate (z - t.length) 0
def blk (xs : List Nat) (z i : Nat) : List Nat := pad z ((xs.drop (i * z)).take z)
def blocksL (xs : List Nat) (z k : Nat) : List ByteArray := (List.range k).map fun i => st (blk xs z i)
theorem pad_length (z : Nat) (t : List Nat) (h : t.length ≤ z) : (pad z t).length = z := by
  unfold pad
  rw [List.length_append, List.length_replicate]
  omega
theorem blk_length (xs : List Nat) (z i : Nat) : (blk xs z i).length = z := pad_length _ _ (List.length_take_le _ _)
theorem blocksL_length (xs : List Nat) (z k : Nat) : (blocksL xs z k).length = k := by simp [blocksL]
theorem blocksL_succ (xs : List Nat) (z k : Nat) : blocksL xs z (k + 1) = blocksL xs z k ++ [st (blk xs z k)] := by
  simp [blocksL, List.range_succ]
theorem pad_bytes {z : Nat} {t : List Nat} (h : bytes t) : bytes (pad z t) := by
  intro x hx
  rcases List.mem_append.1 hx with hx | hx
  · exact h x hx
  · rw [(List.mem_replicate.1 hx).2]; decide
theorem blk_bytes {xs : List Nat} (h : bytes xs) (z i : Nat) : bytes (blk xs z i) := pad_bytes (bytes_take (bytes_drop h _) _)
theorem getD_pad (z : Nat) (t : List Nat) (j : Nat) : (pad z t).getD j 0 = t.getD j 0 := by
  unfold pad
  rw [List.getD_eq_getElem?_getD, List.getD_eq_getElem?_getD]
  by_cases h : j < t.length
  · rw [List.getElem?_append_left h]
  · rw [List.getElem?_append_right (by omega), List.getElem?_eq_none (l := t) (by omega), List.getElem?_replicate]
    split <;> rfl
theorem getD_take (xs : List Nat) (k j : Nat) : (xs.take k).getD j 0 = if j < k then xs.getD j 0 else 0 := by
  rw [List.getD_eq_getElem?_getD, List.getD_eq_getElem?_getD, List.getElem?_take]
  split <;> rfl
theorem getD_drop (xs : List Nat) (k j : Nat) : (xs.drop k).getD j 0 = xs.getD (k + j) 0 := by
  rw [List.getD_eq_getElem?_getD, List.getD_eq_getElem?_getD, List.getElem?_drop]
theorem blk_getD (xs : List Nat) (z i j : Nat) (h : j < z) : (blk xs z i).getD j 0 = xs.getD (i * z + j) 0 := by
  unfold blk
  rw [getD_pad, getD_take, if_pos h, getD_drop]
/-- Cut out of the text with all zeros behind it. -/
theorem blk_ref (xs : List Nat) (z k i : Nat) (hi : i < k) : ((pad (k * z) xs).drop (i * z)).take z = blk xs z i := by
  have h1 : (i + 1) * z ≤ k * z := Nat.mul_le_mul_right z hi
  rw [Nat.add_mul] at h1
  apply ext_getD
  · rw [blk_length, List.length_take, List.length_drop]
    have : k * z ≤ (pad (k * z) xs).length := by
      unfold pad
      rw [List.length_append, List.length_replicate]
      omega
    omega
  · intro j hj
    have hj' : j < z := by
      rw [List.length_take] at hj
      omega
    rw [getD_take, if_pos hj', getD_drop, getD_pad, blk_getD _ _ _ _ hj']
/-- All blocks, one behind the other. -/
def joinL (ss : List ByteArray) : List Nat := ss.flatMap tx
theorem joinL_snoc (ss : List ByteArray) (s : ByteArray) : joinL (ss ++ [s]) = joinL ss ++ tx s := by simp [joinL]
theorem joinL_bytes (ss : List ByteArray) : bytes (joinL ss) := by
  intro x hx
  obtain ⟨s, _, hs⟩ := List.mem_flatMap.1 hx
  exact tx_bytes s x hs
theorem joinL_take (ss : List ByteArray) (k : Nat) (h : k < ss.length) : joinL (ss.take (k + 1)) = joinL (ss.take k) ++ tx (ss.getD k ByteArray.empty) := by
  rw [List.take_succ_eq_append_getElem h, joinL_snoc]
  simp [List.getD_eq_getElem?_getD, List.getElem?_eq_getElem h]
theorem joinL_le (ss : List ByteArray) (k : Nat) : (joinL (ss.take k)).length ≤ (joinL ss).length := by
  conv => rhs; rw [← List.take_append_drop k ss]
  unfold joinL
  rw [List.flatMap_append, List.length_append]
  omega
theorem joinL_blocks {xs : List Nat} (hx : bytes xs) (z : Nat) : ∀ k, k * z ≤ xs.length → joinL (blocksL xs z k) = xs.take (k * z)
  | 0, _ => by simp [blocksL, joinL]
  | k + 1, h => by
    rw [Nat.add_mul, Nat.one_mul] at h
    rw [blocksL_succ, joinL_snoc, joinL_blocks hx z k (by omega), tx_st (blk_bytes hx z k), Nat.add_mul, Nat.one_mul, List.take_add]
    congr 1
    unfold blk pad
    rw [List.length_take, List.length_drop]
    rw [show z - min z (xs.length - k * z) = 0 by omega]
    simp
/-- Joined, and cut to what they were. -/
theorem join_back {xs : List Nat} (hx : bytes xs) (z k : Nat) (hk : 1 ≤ k) (h : xs.length ≤ k * z) (hl : k = 1 ∨ (k - 1) * z < xs.length) : (joinL (blocksL xs z k)).take xs.length = xs := by
  obtain ⟨j, rfl⟩ : ∃ j, k = j + 1 := ⟨k - 1, by omega⟩
  have hj : j * z ≤ xs.length := by
    rcases hl with hl | hl
    · obtain rfl : j = 0 := by omega
      omega
    · simp at hl; omega
  rw [blocksL_succ, joinL_snoc, joinL_blocks hx z j hj, tx_st (blk_bytes hx z j)]
  rw [Nat.add_mul, Nat.one_mul] at h
  have e : (xs.drop (j * z)).take z = xs.drop (j * z) := List.take_of_length_le (by rw [List.length_drop]; omega)
  unfold blk pad
  rw [e, ← List.append_assoc, List.take_append_drop, List.take_append_of_le_length (Nat.le_refl _), List.take_length]
theorem joinL_total (xs : List Nat) (z : Nat) : ∀ k, (joinL (blocksL xs z k)).length = k * z
  | 0 => by simp [blocksL, joinL]
  | k + 1 => by
    rw [blocksL_succ, joinL_snoc, List.length_append, joinL_total xs z k, tx_length, st_len, blk_length, Nat.add_mul, Nat.one_mul]
/-- A byte 0 behind it. -/
theorem blk_more (xs : List Nat) (z i : Nat) : blk (xs ++ [0]) z i = blk xs z i := by
  apply ext_getD
  · rw [blk_length, blk_length]
  · intro j hj
    rw [blk_length] at hj
    rw [blk_getD _ _ _ _ hj, blk_getD _ _ _ _ hj]
    rw [List.getD_eq_getElem?_getD, List.getD_eq_getElem?_getD]
    rcases Nat.lt_trichotomy (i * z + j) xs.length with h | h | h
    · rw [List.getElem?_append_left h]
    · rw [List.getElem?_append_right (by omega), List.getElem?_eq_none (l := xs) (by omega)]
      simp [h]
    · rw [List.getElem?_eq_none (by simp; omega), List.getElem?_eq_none (by omega)]
theorem blocks_more (xs : List Nat) (z k : Nat) : blocksL (xs ++ [0]) z k = blocksL xs z k := by
  unfold blocksL
  congr 1
  funext i
  rw [blk_more]
theorem kc_more (n z : Nat) (hz : 0 < z) (h : n < kc n z * z) : kc (n + 1) z = kc n z := by
  apply kc_eq _ _ _ hz (kc_pos n z) (by omega)
  by_cases e : kc n z = 1
  · exact .inl e
  · right
    have := (kc_great n z (kc n z - 1) hz (by have := kc_pos n z; omega)).1 (by have := kc_pos n z; omega)
    omega
theorem shorts_blocks (xs : List Nat) (z k : Nat) (hz : z ≤ 64) : shorts (blocksL xs z k) := by
  intro s hs
  obtain ⟨i, _, rfl⟩ := List.mem_map.1 hs
  rw [st_len, blk_length]
  omega
theorem blocks_get (xs : List Nat) (z k i : Nat) (h : i < k) : (blocksL xs z k).getD i ByteArray.empty = st (blk xs z i) := by
  unfold blocksL
  rw [List.getD_eq_getElem?_getD, List.getElem?_map, List.getElem?_range h]
  rfl
end Go.Proofs.YtigmckjjoabfeaaDoor
namespace Go.Proofs.YtigmckjjoabfeaaDoor
open Go.RowKit
set_option linter.unusedVariables false
set_option maxRecDepth 4000

theorem ret_two {k k' : IntKind} {a b c d : Int} (h : a = c) (h' : b = d) : Ending.returned (.tuple #[.int k a, .int k' b]) = .returned (.tuple #[.int k c, .int k' d]) := by rw [h, h']
theorem kc_yes {n z : Nat} (h : 0 < n % z ∨ n / z = 0) : kc n z = n / z + 1 := if_pos h
theorem kc_no {n z : Nat} (h : ¬ (0 < n % z ∨ n / z = 0)) : kc n z = n / z := if_neg h

set_option maxHeartbeats 400000 in
theorem plan_any (n z : Int) (w : World) (hn : n ≤ 9223372036854775807) :
    Calls Tryd.prog 64 #[.int .i64 n, .int .i64 z] w fun e w' => e = .returned (.tuple #[.int .i64 (planK n z), .int .i64 (planE n z)]) ∧ w' = w := by
  by_cases h : n < 0 ∨ z < 1 ∨ 64 < z
  · rw [(plan_arg h).1, (plan_arg h).2]
    by_cases h1 : n < 0
    · clear h
      go_enter Tryd.func64, Tryd.ntmps64
      go_wp2
      go_ret2
      exact ⟨rfl, rfl⟩
    · by_cases h2 : z < 1
      · clear h
        go_enter Tryd.func64, Tryd.ntmps64
        go_wp2
        go_ret2
        exact ⟨rfl, rfl⟩
      · have h3 : 64 < z := by omega
        clear h
        go_enter Tryd.func64, Tryd.ntmps64
        go_wp2
        go_ret2
        exact ⟨rfl, rfl⟩
  · obtain ⟨N, rfl⟩ : ∃ N : Nat, n = (N : Int) := ⟨n.toNat, by omega⟩
    obtain ⟨Z, rfl⟩ : ∃ Z : Nat, z = (Z : Int) := ⟨z.toNat, by omega⟩
    have hz1 : 1 ≤ Z := by omega
    have hz2 : Z ≤ 64 := by omega
    have hz0 : (1 : Int) ≤ (Z : Int) := by omega
    have hz3 : (Z : Int) ≤ 64 := by omega
    have hn0 : (0 : Int) ≤ (N : Int) := by omega
    have eq : (N : Int) / (Z : Int) = ((N / Z : Nat) : Int) := by simp
    have er : (N : Int) % (Z : Int) = ((N % Z : Nat) : Int) := by simp
    have hq : N / Z ≤ N := Nat.div_le_self _ _
    have hqr : N / Z + N % Z ≤ N := by
      have h1 := Nat.div_add_mod N Z
      have h2 := Nat.le_mul_of_pos_left (N / Z) (show 0 < Z by omega)
      omega
    have HY := hide (fun h => kc_yes (n := N) (z := Z) h)
    have HN := hide (fun h => kc_no (n := N) (z := Z) h)
    have HO := hide (fun h => plan_ok (n := N) hz1 hz2 h)
    have HS := hide (fun h => plan_size (n := N) hz1 hz2 h)
    generalize kc N Z = k at *
    obtain ⟨E0, hE0⟩ : ∃ E0, planE (N : Int) (Z : Int) = E0 := ⟨_, rfl⟩
    obtain ⟨K0, hK0⟩ : ∃ K0, planK (N : Int) (Z : Int) = K0 := ⟨_, rfl⟩
    rw [hE0, hK0]
    rw [hE0, hK0] at HO HS
    clear h hE0 hK0
    generalize N / Z = q at *
    generalize N % Z = r at *
    by_cases hr : 0 < r
    · have hkk := unhide HY (.inl hr)
      have HK := hide hkk
      by_cases hbig : 128 < q + 1
      · have hbi : (128 : Int) < (q : Int) + 1 := by omega
        have HR := hide (unhide HS (by omega))
        clear HY HN HO HS hkk
        go_enter Tryd.func64, Tryd.ntmps64
        go_wp2
        go_ret2
        exact ⟨ret_two (unhide HR).2.symm (unhide HR).1.symm, rfl⟩
      · have HR := hide (unhide HO (by omega))
        clear HY HN HO HS hkk
        go_enter Tryd.func64, Tryd.ntmps64
        go_wp2
        go_ret2
        exact ⟨ret_two (by rw [(unhide HR).2, unhide HK]; go_num) (unhide HR).1.symm, rfl⟩
    · by_cases hq0 : q = 0
      · subst hq0
        have hkk := unhide HY (.inr rfl)
        have HK := hide hkk
        have HR := hide (unhide HO (by omega))
        clear HY HN HO HS hkk
        go_enter Tryd.func64, Tryd.ntmps64
        go_wp2
        go_ret2
        exact ⟨ret_two (by rw [(unhide HR).2, unhide HK]; rfl) (unhide HR).1.symm, rfl⟩
      · have hkk := unhide HN (by omega)
        have HK := hide hkk
        by_cases hbig : 128 < q
        · have HR := hide (unhide HS (by omega))
          clear HY HN HO HS hkk
          go_enter Tryd.func64, Tryd.ntmps64
          go_wp2
          go_ret2
          exact ⟨ret_two (unhide HR).2.symm (unhide HR).1.symm, rfl⟩
        · have HR := hide (unhide HO (by omega))
          clear HY HN HO HS hkk
          go_enter Tryd.func64, Tryd.ntmps64
          go_wp2
          go_ret2
          exact ⟨ret_two (by rw [(unhide HR).2, unhide HK]) (unhide HR).1.symm, rfl⟩

set_option maxHeartbeats 400000 in
theorem rplan_any (n z : Int) (w : World) (hn : n ≤ 9223372036854775807) :
    Calls Tryd.prog 48 #[.int .i64 n, .int .i64 z] w fun e w' => e = .returned (.tuple #[.int .i64 (planK n z), .int .i64 (planE n z)]) ∧ w' = w := by
  by_cases h : n < 0 ∨ z < 1 ∨ 64 < z
  · rw [(plan_arg h).1, (plan_arg h).2]
    by_cases h1 : n < 0
    · clear h
      go_enter Tryd.func48, Tryd.ntmps48
      go_wp2
      go_ret2
      exact ⟨rfl, rfl⟩
    · by_cases h2 : z < 1
      · clear h
        go_enter Tryd.func48, Tryd.ntmps48
        go_wp2
        go_ret2
        exact ⟨rfl, rfl⟩
      · have h3 : 64 < z := by omega
        clear h
        go_enter Tryd.func48, Tryd.ntmps48
        go_wp2
        go_ret2
        exact ⟨rfl, rfl⟩
  · obtain ⟨N, rfl⟩ : ∃ N : Nat, n = (N : Int) := ⟨n.toNat, by omega⟩
    obtain ⟨Z, rfl⟩ : ∃ Z : Nat, z = (Z : Int) := ⟨z.toNat, by omega⟩
    have hz1 : 1 ≤ Z := by omega
    have hz2 : Z ≤ 64 := by omega
    have hz0 : (1 : Int) ≤ (Z : Int) := by omega
    have hz3 : (Z : Int) ≤ 64 := by omega
    have hn0 : (0 : Int) ≤ (N : Int) := by omega
    by_cases hbig : 128 < kc N Z
    · have hb2 := (kc_great N Z 128 hz1 (by decide)).1 hbig
      have hb3 : (Z : Int) * 128 < (N : Int) := by omega
      have HR := hide (plan_size hz1 hz2 hbig)
      obtain ⟨E0, hE0⟩ : ∃ E0, planE (N : Int) (Z : Int) = E0 := ⟨_, rfl⟩
      obtain ⟨K0, hK0⟩ : ∃ K0, planK (N : Int) (Z : Int) = K0 := ⟨_, rfl⟩
      rw [hE0, hK0]
      rw [hE0, hK0] at HR
      clear hE0 hK0 hbig hb2 h
      go_enter Tryd.func48, Tryd.ntmps48
      go_wp2
      go_ret2
      exact ⟨ret_two (unhide HR).2.symm (unhide HR).1.symm, rfl⟩
    · have hb2 : ¬ 128 * Z < N := fun h => hbig ((kc_great N Z 128 hz1 (by decide)).2 h)
      have hb3 : (N : Int) ≤ (Z : Int) * 128 := by omega
      have HR := hide (plan_ok (n := N) hz1 hz2 (by omega))
      obtain ⟨E0, hE0⟩ : ∃ E0, planE (N : Int) (Z : Int) = E0 := ⟨_, rfl⟩
      obtain ⟨K0, hK0⟩ : ∃ K0, planK (N : Int) (Z : Int) = K0 := ⟨_, rfl⟩
      rw [hE0, hK0]
      rw [hE0, hK0] at HR
      have hkb : kc N Z ≤ 128 := by omega
      clear hE0 hK0 hbig hb2 h
      go_enter Tryd.func48, Tryd.ntmps48
      go_wp2
      go_loop [6] (fun v => ∃ k : Nat, 1 ≤ k ∧ k ≤ kc N Z ∧ v = .int .i64 k) (fun v => kc N Z - (intOf v).toNat)
      case atStart => exact ⟨1, Nat.le_refl _, kc_pos _ _, rfl⟩
      case round =>
        obtain ⟨k, hk1, hk2, rfl⟩ := hrel
        have hmz : k * Z ≤ 8192 := Nat.le_trans (Nat.mul_le_mul (show k ≤ 128 by omega) hz2) (by decide)
        have emul : (k : Int) * (Z : Int) = ((k * Z : Nat) : Int) := by simp
        have HG := hide (kc_great N Z k hz1 hk1)
        have HP := hide (fun h => kc_eq N Z k hz1 hk1 h)
        have hkb' : (k : Int) ≤ 128 := by omega
        by_cases hlt : k * Z < N
        · have hk3 := (unhide HG).2 hlt
          generalize k * Z = m at *
          generalize kc N Z = K at *
          clear HG HP
          go_wp2
          go_round
          case rel => exact ⟨k + 1, by omega, by omega, by go_num⟩
          case measure => simp [intOf]; omega
        · have hk3 : ¬ k < kc N Z := fun h => hlt ((unhide HG).1 h)
          have HE := hide (show kc N Z = k by omega)
          generalize k * Z = m at *
          generalize kc N Z = K at *
          clear HG HP
          go_wp2
          go_ret2
          exact ⟨ret_two (by rw [(unhide HR).2, unhide HE]) (unhide HR).1.symm, rfl⟩

set_option maxHeartbeats 400000 in
theorem texts_any (a : Option Addr) (n c : Nat) (ss : List ByteArray) (a' : Option Addr) (n' c' : Nat) (ts : List ByteArray) (w : World) (h : TextsAt w a n ss) (h' : TextsAt w a' n' ts) (hn : n ≤ 1048576) (hn' : n' ≤ 1048576) :
    Calls Tryd.prog 10 #[.slice a n c, .slice a' n' c'] w fun e w' => e = .returned (.bool (decide (ss = ts))) ∧ ∃ d, w' = w.drewN d := by
  obtain rfl := h.1
  obtain rfl := h'.1
  by_cases hl : ss.length = ts.length
  · have HL := hide hl
    obtain ⟨v, hv⟩ : ∃ v, decide (ss = ts) = v := ⟨_, rfl⟩
    have HV := hide hv
    rw [hv]
    have hli : ((ss.length : Int) = (ts.length : Int)) := by omega
    rw [← hl] at h' ⊢
    clear hv hl hli
    go_enter Tryd.func10, Tryd.ntmps10
    go_wp2
    go_loopw [5] (fun i wr => ∃ k : Nat, k ≤ ss.length ∧ i = .int .i64 k ∧ Hid (∀ j, j < k → ss.getD j ByteArray.empty = ts.getD j ByteArray.empty) ∧ ∃ d, wr = w.drewN d) (fun i _ => ss.length - (intOf i).toNat)
    case atStart => exact ⟨0, Nat.zero_le _, rfl, hide (fun j hj => by omega), 0, rfl⟩
    case round =>
      obtain ⟨k, hk, rfl, HE, d, rfl⟩ := hrel
      by_cases hlt : k < ss.length
      · obtain ⟨b, off, rfl, hc⟩ := h.at hlt
        obtain ⟨b', off', rfl, hc'⟩ := h'.at hlt
        have c1 := hc k hlt
        have c2 := hc' k hlt
        have hlt' : (k : Int) < (ss.length : Int) := by omega
        have HX := hide (show ss.getD k ByteArray.empty = ts.getD k ByteArray.empty → ∀ j, j < k + 1 → ss.getD j ByteArray.empty = ts.getD j ByteArray.empty from fun h0 j hj => by
          by_cases e : j = k
          · subst e; exact h0
          · exact unhide HE j (by omega))
        have HY := hide (show ss.getD k ByteArray.empty ≠ ts.getD k ByteArray.empty → v = false from fun h0 => by
          rw [← unhide HV]
          exact decide_eq_false fun e => h0 (by rw [e]))
        have he := eq_texts (ss.getD k ByteArray.empty) (ts.getD k ByteArray.empty)
        generalize ss.getD k ByteArray.empty = x at *
        generalize ts.getD k ByteArray.empty = y at *
        clear hc hc' h h' HE
        by_cases hxy : x = y
        · have HX2 := hide (unhide HX hxy)
          rw [decide_eq_true hxy] at he
          clear HX HY hxy
          go_wp2
          go_quiet (fail)
          go_wp2
          go_roundw
          case rel => exact ⟨k + 1, by omega, by go_num, HX2, _, rfl⟩
          case measure => simp [intOf]; omega
        · have HY2 := hide (unhide HY hxy)
          rw [decide_eq_false hxy] at he
          clear HX HY hxy
          go_wp2
          go_quiet (fail)
          go_wp2
          go_ret
          exact ⟨ret_bool (unhide HY2).symm, _, World.drewN_drewN ..⟩
      · have hke : k = ss.length := by omega
        subst hke
        have HT := hide (show v = true from by
          rw [← unhide HV]
          apply decide_eq_true
          apply List.ext_getElem (unhide HL)
          intro i h1 h2
          have := unhide HE i h1
          simpa [List.getD_eq_getElem?_getD, List.getElem?_eq_getElem h1, List.getElem?_eq_getElem h2] using this)
        clear h h' HE
        go_wp2
        go_ret
        exact ⟨ret_bool (unhide HT).symm, d, rfl⟩
  · have hv : decide (ss = ts) = false := decide_eq_false fun e => hl (by rw [e])
    rw [hv]
    have hli : ¬ ((ss.length : Int) = (ts.length : Int)) := by omega
    clear h h'
    go_enter Tryd.func10, Tryd.ntmps10
    go_wp2
    go_ret
    exact ⟨rfl, 0, rfl⟩
end Go.Proofs.YtigmckjjoabfeaaDoor
namespace Go.Proofs.YtigmckjjoabfeaaDoor
open Go.RowKit
set_option linter.unusedVariables false
set_option maxRecDepth 4000

theorem size_eq0 {s : ByteArray} (h : s.size = 0) : s = ⟨#[]⟩ := by
  apply tx_inj
  have h1 : (tx s).length = 0 := by rw [tx_length]; exact h
  rw [List.eq_nil_of_length_eq_zero h1]
  rfl

set_option maxHeartbeats 1000000 in
theorem lclone_any (s : ByteArray) (w : World) (hn : s.size ≤ 1048576) :
    Calls Tryd.prog 49 #[.string s] w fun e w' => e = .returned (.string s) ∧ Below w.heap.size w w' := by
  by_cases h0 : s.size = 0
  · obtain rfl := size_eq0 h0
    go_enter Tryd.func49, Tryd.ntmps49
    go_wp2
    go_ret
    exact ⟨rfl, Below.refl _ _⟩
  · have h0' : ¬ ((s.size : Int) = 0) := by omega
    obtain ⟨i0, hi0, hz0, hz1, hz2⟩ := info_parts info_u8
    have hco : Tryd.prog.cellsOf 5 = 1 := by simp [Program.cellsOf, hi0, hz1]
    have hrun := fun W => run_make (P := Tryd.prog) W 91 5 i0 (.int .u8 0) Tryd.underlying91 hi0 hz0 .i64 .i64 (s.size : Int) (s.size : Int) (by omega) (by omega) (by rw [hz2]; omega) (by omega)
    simp only [Int.toNat_natCast] at hrun
    have hcs : (madeCells (Value.int .u8 0).cells (s.size * i0.size)).size = s.size := by rw [size_madeCells, hz1, Nat.mul_one]
    generalize madeCells (Value.int .u8 0).cells (s.size * i0.size) = cur at *
    have hgw : (w.alloc (.cells cur 5)).heap[w.heap.size]? = some (.cells cur 5 (0, 0)) := by
      show (w.heap.push _)[w.heap.size]? = _
      simp
    have hbw : Below w.heap.size w (w.alloc (.cells cur 5)) := (Below.refl _ _).alloc (Nat.le_refl _) _
    have hcp := run_copy_text_of (P := Tryd.prog) (w.alloc (.cells cur 5)) 91 9 3 5 w.heap.size s.size s.size s cur 5 Tryd.underlying91 (by rw [hi0]; simp [hz1]) hgw hcs rfl
    have hgY := setRow_heap (w.alloc (.cells cur 5)) w.heap.size cur (s.data.map fun b => Value.int .u8 (b.toNat : Int)) 5 (0, 0) hgw
    have hY : (s.data.map fun b => Value.int .u8 (b.toNat : Int)).size = s.size := by rw [Array.size_map]; rfl
    have hl : s.data.toList.length = s.size := Array.length_toList
    have hb2 : Below w.heap.size w ((w.alloc (.cells cur 5)).setRow w.heap.size (s.data.map fun b => Value.int .u8 (b.toNat : Int))) := hbw.trans ⟨rfl, rfl, rfl, by simp, fun k hk => setRow_other _ _ k _ (by omega)⟩
    have hcl : ∀ (j : Nat) (x : UInt8), s.data.toList[j]? = some x → ((w.alloc (.cells cur 5)).setRow w.heap.size (s.data.map fun b => Value.int .u8 (b.toNat : Int))).cell? ((⟨w.heap.size, 0, none⟩ : Addr).add j) = some (.int .u8 x.toNat) := by
      intro j x hx
      have e : (⟨w.heap.size, 0, none⟩ : Addr).add j = ⟨w.heap.size, j, none⟩ := by unfold Addr.add; split <;> simp_all
      rw [e, cell_setRow_same _ _ j _ _ _ _ hgw]
      rw [Array.getElem?_toList] at hx
      simp [hx]
    have hUS := Lib.run_unsafeString_row (P := Tryd.prog) ((w.alloc (.cells cur 5)).setRow w.heap.size (s.data.map fun b => Value.int .u8 (b.toNat : Int))) 106 3 9 5 Tryd.underlying106 hco w.heap.size s.size (by unfold World.shape?; rw [hgY]; exact congrArg (fun n => some (5, n)) hY) s.data.toList
      (fun e => h0 (by rw [← hl, e]; rfl)) (by rw [hl]; omega) (by rw [hl]; omega) hcl
    rw [hl] at hUS
    have e2 : (⟨s.data.toList.toArray⟩ : ByteArray) = s := by cases s; simp
    rw [e2] at hUS
    generalize (w.alloc (.cells cur 5)).setRow w.heap.size (s.data.map fun b => Value.int .u8 (b.toNat : Int)) = w1 at *
    have HB := hide (Lib.below_freeze hb2 (p := ⟨w.heap.size, 0, none⟩) (Nat.le_refl _) s.size)
    clear hcl hb2 hY hgY hbw hgw hcs hl e2 hco
    go_enter Tryd.func49, Tryd.ntmps49
    go_wp2
    go_ret
    exact ⟨rfl, unhide HB⟩

theorem sclone_any (s : ByteArray) (w : World) (hn : s.size ≤ 1048576) :
    Calls Tryd.prog 25 #[.string s] w fun e w' => e = .returned (.string s) ∧ Below w.heap.size w w' := by
  go_enter Tryd.func25, Tryd.ntmps25
  go_wp2_with fail
  refine (lclone_any s w hn).mono ?_
  rintro e w1 ⟨rfl, hb⟩
  have HB := hide hb
  clear hb
  go_wp2
  go_ret
  exact ⟨rfl, unhide HB⟩
end Go.Proofs.YtigmckjjoabfeaaDoor
namespace Go.Proofs.YtigmckjjoabfeaaDoor
open Go.RowKit
set_option linter.unusedVariables false
set_option maxRecDepth 4000

/-- The number whose bytes these are, the highest first. -/
def num (xs : List Nat) : Nat := xs.foldl (fun a b => a * 256 + b) 0
theorem num_snoc (xs : List Nat) (b : Nat) : num (xs ++ [b]) = num xs * 256 + b := by simp [num]
theorem foldl_num (xs : List Nat) : ∀ a, xs.foldl (fun a b => a * 256 + b) a = a * 256 ^ xs.length + num xs := by
  unfold num
  induction xs with
  | nil => intro a; simp
  | cons x r ih =>
    intro a
    simp only [List.foldl_cons, List.length_cons]
    rw [ih (a * 256 + x), ih (0 * 256 + x), Nat.pow_succ, Nat.add_mul]
    simp only [Nat.zero_mul, Nat.zero_add]
    rw [Nat.mul_assoc a 256, Nat.mul_comm 256, Nat.add_assoc]
theorem num_cons (x : Nat) (r : List Nat) : num (x :: r) = x * 256 ^ r.length + num r := by
  have := foldl_num r (0 * 256 + x)
  simp only [Nat.zero_mul, Nat.zero_add] at this
  simpa [num] using this
theorem num_lt {xs : List Nat} (h : bytes xs) : num xs < 256 ^ xs.length := by
  induction xs with
  | nil => simp [num]
  | cons x r ih =>
    have h1 : x < 256 := h x (List.mem_cons_self ..)
    have h2 := ih (fun y hy => h y (List.mem_cons_of_mem _ hy))
    rw [num_cons, List.length_cons, Nat.pow_succ]
    have h3 : x * 256 ^ r.length ≤ 255 * 256 ^ r.length := Nat.mul_le_mul_right _ (by omega)
    omega
theorem num_lt_of {xs : List Nat} (h : bytes xs) {k : Nat} (hk : xs.length ≤ k) : num xs < 256 ^ k := Nat.lt_of_lt_of_le (num_lt h) (Nat.pow_le_pow_right (by decide) hk)
/-- The W lowest bytes of n, the highest first. -/
def be : Nat → Nat → List Nat
  | 0, _ => []
  | W + 1, n => (n / 256 ^ W % 256) :: be W n
theorem be_length : ∀ (W n : Nat), (be W n).length = W
  | 0, _ => rfl
  | W + 1, n => by rw [be, List.length_cons, be_length W n]
theorem be_bytes : ∀ (W n : Nat), bytes (be W n)
  | 0, _ => bytes_nil
  | W + 1, n => by
    intro x hx
    rw [be] at hx
    rcases List.mem_cons.1 hx with rfl | hx
    · exact Nat.mod_lt _ (by decide)
    · exact be_bytes W n x hx
theorem be_take : ∀ (W n k : Nat), k < W → (be W n).take (k + 1) = (be W n).take k ++ [n / 256 ^ (W - 1 - k) % 256]
  | 0, _, _, h => by omega
  | W + 1, n, 0, _ => by simp [be]
  | W + 1, n, k + 1, h => by
    have := be_take W n k (by omega)
    rw [be, List.take_succ_cons, List.take_succ_cons, this, show W + 1 - 1 - (k + 1) = W - 1 - k by omega]
    rfl
theorem num_be : ∀ (W n : Nat), num (be W n) = n % 256 ^ W
  | 0, n => by simp [be, num, Nat.mod_one]
  | W + 1, n => by
    rw [be, num_cons, be_length, num_be W n, Nat.mod_pow_succ, Nat.mul_comm, Nat.add_comm]
theorem be_mod : ∀ (W m n : Nat), m % 256 ^ W = n % 256 ^ W → be W m = be W n
  | 0, _, _, _ => rfl
  | W + 1, m, n, h => by
    rw [Nat.mod_pow_succ, Nat.mod_pow_succ] at h
    have hp : 0 < 256 ^ W := Nat.pow_pos (by decide)
    have h1 := Nat.mod_lt m hp
    have h2 := Nat.mod_lt n hp
    have e1 : m % 256 ^ W = n % 256 ^ W := by
      have := congrArg (· % 256 ^ W) h
      simpa [Nat.add_mul_mod_self_left, Nat.mod_eq_of_lt h1, Nat.mod_eq_of_lt h2] using this
    have e2 : m / 256 ^ W % 256 = n / 256 ^ W % 256 := by
      rw [e1] at h
      exact Nat.eq_of_mul_eq_mul_left hp (by omega)
    rw [be, be, e2, be_mod W m n e1]
/-- The bytes of words. -/
def beV (v : List Nat) : List Nat := v.flatMap (be 8)
theorem beV_cons (x : Nat) (r : List Nat) : beV (x :: r) = be 8 x ++ beV r := by simp [beV]
theorem beV_length : ∀ v : List Nat, (beV v).length = 8 * v.length
  | [] => rfl
  | x :: r => by rw [beV_cons, List.length_append, be_length, beV_length r, List.length_cons]; omega
theorem beV_bytes (v : List Nat) : bytes (beV v) := by
  intro x hx
  obtain ⟨y, _, hy⟩ := List.mem_flatMap.1 hx
  exact be_bytes 8 y x hy
theorem take_get {v : List Nat} {k : Nat} (hk : k < v.length) : v.take (k + 1) = v.take k ++ [v.getD k 0] := by
  rw [List.take_add_one, List.getElem?_eq_getElem hk, List.getD_eq_getElem?_getD, List.getElem?_eq_getElem hk]
  rfl
theorem beW_take (W : Nat) {v : List Nat} {k : Nat} (hk : k < v.length) : (v.take (k + 1)).flatMap (be W) = (v.take k).flatMap (be W) ++ be W (v.getD k 0) := by
  rw [take_get hk, List.flatMap_append]
  simp
theorem beW_length (W : Nat) : ∀ v : List Nat, (v.flatMap (be W)).length = v.length * W
  | [] => by simp
  | x :: r => by rw [List.flatMap_cons, List.length_append, be_length, beW_length W r, List.length_cons, Nat.add_mul]; omega
theorem beW_bytes (W : Nat) (v : List Nat) : bytes (v.flatMap (be W)) := by
  intro x hx
  obtain ⟨y, _, hy⟩ := List.mem_flatMap.1 hx
  exact be_bytes W y x hy
theorem bytes_append {xs ys : List Nat} (hx : bytes xs) (hy : bytes ys) : bytes (xs ++ ys) := by
  intro x h
  rcases List.mem_append.1 h with h | h
  · exact hx x h
  · exact hy x h
/-- The first n words of bytes. -/
def wsL (xs : List Nat) (n : Nat) : List Nat := (List.range n).map fun i => num ((xs.drop (8 * i)).take 8)
theorem wsL_length (xs : List Nat) (n : Nat) : (wsL xs n).length = n := by simp [wsL]
theorem wsL_succ (xs : List Nat) (n : Nat) : wsL xs (n + 1) = wsL xs n ++ [num ((xs.drop (8 * n)).take 8)] := by simp [wsL, List.range_succ]
theorem wsL_small {xs : List Nat} (h : bytes xs) (n : Nat) : smalls (wsL xs n) := by
  intro x hx
  obtain ⟨i, _, rfl⟩ := List.mem_map.1 hx
  exact num_lt_of (k := 8) (bytes_take (bytes_drop h _) 8) (List.length_take_le ..)
theorem wsL_cons {xs : List Nat} (hx : xs.length = 8) (ys : List Nat) (n : Nat) : wsL (xs ++ ys) (n + 1) = num xs :: wsL ys n := by
  unfold wsL
  rw [List.range_succ_eq_map, List.map_cons, List.map_map]
  congr 1
  · rw [Nat.mul_zero, List.drop_zero, ← hx, List.take_left]
  · apply List.map_congr_left
    intro i _
    show num ((List.drop (8 * (i + 1)) (xs ++ ys)).take 8) = _
    rw [show 8 * (i + 1) = xs.length + 8 * i by omega, List.drop_append, List.drop_eq_nil_of_le (by omega), List.nil_append, show xs.length + 8 * i - xs.length = 8 * i by omega]
theorem wsL_beV : ∀ (v zs : List Nat), smalls v → wsL (beV v ++ zs) v.length = v
  | [], _, _ => rfl
  | x :: r, zs, h => by
    have hx : x < 18446744073709551616 := h x (List.mem_cons_self ..)
    rw [beV_cons, List.append_assoc, List.length_cons, wsL_cons (be_length 8 x), num_be, wsL_beV r zs (fun y hy => h y (List.mem_cons_of_mem _ hy)), Nat.mod_eq_of_lt hx]

/-- '<<8 |'. -/
theorem push_num (x b : Nat) (hx : x < 72057594037927936) (hb : b < 256) : bits .or .u64 ((x : Int) * 256) (b : Int) = ((x * 256 + b : Nat) : Int) := by
  rw [show (x : Int) * 256 = ((256 * x : Nat) : Int) by omega, u64_or_nat (256 * x) b (by omega) (by omega)]
  congr 1
  have := Nat.two_pow_add_eq_or_of_lt (i := 8) (show b < 2 ^ 8 by omega) x
  rw [show (256 : Nat) = 2 ^ 8 from rfl, ← this]
  omega
end Go.Proofs.YtigmckjjoabfeaaDoor
