/-
  Slices of texts ('TextsAt'); contracts of xor.Sum, bucketlineref02.Sum, xor.Of, bucketlineref02.Of, xor.reached: for up to 2^20 texts of at most 2^20 bytes.
  Blocks of a text, on plain lists: how many ('kc'), what each holds ('blk'), all of them ('blocksL'), joined. No condition.
  Plain lists for draws: the n-th draw of a list ('drawN'), numbers taken one after the other of those that are left ('leftL', 'picksL'), the same rising ('distL'), and what is taken by marks ('untaken', 'marked'). No condition.
-/
import Derived.Test.YtakoaadimhpclaaGreatDoorU12
import Derived.Test.YtakoaadimhpclaaGreatDoorU13
import Derived.Test.YtakoaadimhpclaaGreatDoorU0
import Derived.Test.YtakoaadimhpclaaGreatDoorU1
namespace Go.Proofs.YtakoaadimhpclaaGreatDoor
open Go.RowKit
set_option linter.unusedVariables false
set_option linter.unusedSimpArgs false
set_option maxRecDepth 4000

/-- The xor of the blocks whose bits are set, of the first k. -/
def ofL (ss : List ByteArray) (vs : List Nat) : Nat → List Nat
  | 0 => []
  | k + 1 => if getB vs k then xorL (ofL ss vs k) (tx (ss.getD k ByteArray.empty)) else ofL ss vs k
theorem ofL_len (ss : List ByteArray) (vs : List Nat) (hs : shorts ss) : ∀ k, (ofL ss vs k).length ≤ 1048576
  | 0 => by simp [ofL]
  | k + 1 => by
    unfold ofL
    have := ofL_len ss vs hs k
    split
    · rw [xorL_length, tx_length]; have := hs.get k; omega
    · exact this
theorem ofL_yes {ss : List ByteArray} {vs : List Nat} {k : Nat} (h : getB vs k = true) : ofL ss vs (k + 1) = xorL (ofL ss vs k) (tx (ss.getD k ByteArray.empty)) := by simp [ofL, h]
theorem ofL_no {ss : List ByteArray} {vs : List Nat} {k : Nat} (h : getB vs k = false) : ofL ss vs (k + 1) = ofL ss vs k := by simp [ofL, h]

set_option maxHeartbeats 400000 in
theorem of_any (a : Option Addr) (n c : Nat) (ss : List ByteArray) (a' : Option Addr) (m c' : Nat) (vs : List Nat) (w : World) (h : TextsAt w a n ss) (hs : shorts ss) (hn : n ≤ 1048576) (h' : RowAt w a' m vs) (hm : m ≤ 1048576) :
    Calls Tryz.prog 23 #[.slice a n c, .slice a' m c'] w fun e w' => e = .returned (.string (st (ofL ss vs n))) ∧ Below w.heap.size w w' := by
  go_enter Tryz.func23, Tryz.ntmps23
  go_wp2
  go_loopw [5, 10] (fun v i wr => ∃ k : Nat, k ≤ n ∧ i = .int .i64 k ∧ Hid (OwnB wr w.heap.size v (ofL ss vs k)) ∧ Hid (Below w.heap.size w wr)) (fun _ i _ => n - (intOf i).toNat)
  case atStart => exact ⟨0, Nat.zero_le _, rfl, hide (OwnB.nil _ _), hide (Below.refl _ _)⟩
  case round =>
    rename_i wr
    obtain ⟨k, hk, rfl, HO, HB⟩ := hrel
    by_cases hlt : k < n
    · obtain ⟨b, off, rfl, hc⟩ := (h.below (unhide HB)).at hlt
      have hcell := hc k hlt
      have HS := hide hs
      have HR := hide (h'.below (unhide HB))
      have hlt' : (k : Int) < (n : Int) := by omega
      clear hc h hs h'
      go_wp2_with fail
      refine (getN_any a' m c' vs k _ (unhide HR) hm (by omega)).mono ?_
      rintro e w1 ⟨rfl, hb1⟩
      have HO1 := hide ((unhide HO).below hb1)
      have HB1 := hide (below0 (unhide HB) hb1)
      clear HO HB hb1 HR hcell
      cases hg : getB vs k
      · rw [← ofL_no (ss := ss) hg] at HO1
        go_wp2
        go_roundw
        case rel => exact ⟨k + 1, by omega, by go_num, HO1, HB1⟩
        case measure => simp [intOf]; omega
      · go_wp2_with fail
        refine (add_any _ _ _ w.heap.size _ (unhide HO1) (unhide HB1).size (ofL_len ss vs (unhide HS) k) ((unhide HS).get k)).mono ?_
        rintro e w2 ⟨v2, rfl, ho2, hb2⟩
        rw [← ofL_yes hg] at ho2
        have HO2 := hide ho2
        have HB2 := hide ((unhide HB1).trans hb2)
        clear ho2 hb2 HO1 HB1
        go_wp2
        go_roundw
        case rel => exact ⟨k + 1, by omega, by go_num, HO2, HB2⟩
        case measure => simp [intOf]; omega
    · have hke : k = n := by omega
      subst hke
      have hct := (unhide HO).text
      clear h hs h'
      go_wp2
      go_ret
      exact ⟨rfl, unhide HB⟩

end Go.Proofs.YtakoaadimhpclaaGreatDoor
namespace Go.Proofs.YtakoaadimhpclaaGreatDoor
open Go.RowKit
set_option linter.unusedVariables false
set_option linter.unusedSimpArgs false
set_option maxRecDepth 4000

/-- How many blocks of z bytes n bytes have. -/
def kc (n z : Nat) : Nat := if 0 < n % z ∨ n / z = 0 then n / z + 1 else n / z
theorem kc_pos (n z : Nat) : 1 ≤ kc n z := by
  unfold kc
  generalize n / z = q
  generalize n % z = r
  split <;> rename_i h <;> omega
theorem kc_enough (n z : Nat) (hz : 0 < z) : n ≤ kc n z * z := by
  have h1 := Nat.div_add_mod n z
  have h2 := Nat.mod_lt n hz
  rw [Nat.mul_comm] at h1
  unfold kc
  split
  · rw [Nat.add_mul]; omega
  · rename_i h
    have : n % z = 0 := by omega
    omega
theorem kc_least (n z k : Nat) (hz : 0 < z) (hk : 1 ≤ k) (h : n ≤ k * z) : kc n z ≤ k := by
  have h1 := Nat.div_add_mod n z
  have h2 := Nat.mod_lt n hz
  rw [Nat.mul_comm] at h1
  unfold kc
  split
  · rename_i hc
    rcases hc with hc | hc
    · rcases Nat.lt_or_ge (n / z) k with h' | h'
      · omega
      · have := Nat.mul_le_mul_right z h'
        omega
    · omega
  · rename_i hc
    rcases Nat.lt_or_ge k (n / z) with h' | h'
    · have := Nat.mul_le_mul_right z (Nat.succ_le_of_lt h')
      rw [Nat.succ_mul] at this
      omega
    · exact h'

/-- The error's number, and how many blocks. -/
def planE (n z : Int) : Int := if n < 0 ∨ z < 1 ∨ 64 < z then 1 else if 128 < kc n.toNat z.toNat then 2 else 0
def planK (n z : Int) : Int := if planE n z = 0 then (kc n.toNat z.toNat : Int) else 0
theorem plan_arg {n z : Int} (h : n < 0 ∨ z < 1 ∨ 64 < z) : planE n z = 1 ∧ planK n z = 0 := by
  have e : planE n z = 1 := if_pos h
  exact ⟨e, by unfold planK; rw [e]; rfl⟩
theorem plan_size {n z : Nat} (h1 : 1 ≤ z) (h2 : z ≤ 64) (h : 128 < kc n z) : planE (n : Int) (z : Int) = 2 ∧ planK (n : Int) (z : Int) = 0 := by
  have e : planE (n : Int) (z : Int) = 2 := by
    unfold planE
    rw [if_neg (by omega), if_pos (by simpa using h)]
  exact ⟨e, by unfold planK; rw [e]; rfl⟩
theorem plan_ok {n z : Nat} (h1 : 1 ≤ z) (h2 : z ≤ 64) (h : kc n z ≤ 128) : planE (n : Int) (z : Int) = 0 ∧ planK (n : Int) (z : Int) = (kc n z : Int) := by
  have e : planE (n : Int) (z : Int) = 0 := by
    unfold planE
    rw [if_neg (by omega), if_neg (by simp; omega)]
  exact ⟨e, by unfold planK; rw [e]; simp⟩
/-- What is asked of n and z where there are blocks. -/
theorem plan_yes {n : Nat} {z : Int} (h : planE (n : Int) z = 0) : ∃ Z : Nat, z = (Z : Int) ∧ 1 ≤ Z ∧ Z ≤ 64 ∧ kc n Z ≤ 128 := by
  unfold planE at h
  split at h
  · omega
  · rename_i hc
    obtain ⟨Z, rfl⟩ : ∃ Z : Nat, z = (Z : Int) := ⟨z.toNat, by omega⟩
    split at h
    · omega
    · rename_i hk
      simp only [Int.toNat_natCast] at hk
      exact ⟨Z, rfl, by omega, by omega, by omega⟩

/-- The block i of xs, zeros behind. -/
def pad (z : Nat) (t : List Nat) : List Nat := t ++ List.replicate (z - t.length) 0
def blk (xs : List Nat) (z i : Nat) : List Nat := pad z ((xs.drop (i * z)).take z)
def blocksL (xs : List Nat) (z k : Nat) : List ByteArray := (List.range k).map fun i => st (blk xs z i)
theorem pad_length (z : Nat) (t : List Nat) (h : t.length ≤ z) : (pad z t).length = z := by
  unfold pad
  rw [List.length_append, List.length_replicate]
  omega
theorem blk_length (xs : List Nat) (z i : Nat) : (blk xs z i).length = z := pad_length _ _ (List.length_take_le _ _)
theorem blocksL_length (xs : List Nat) (z k : Nat) : (blocksL xs z k).length = k := by simp [blocksL]
theorem blocksL_succ (xs : List Nat) (z k : Nat) : blocksL xs z (k + 1) = blocksL xs z k ++ [st (blk xs z k)] := by
  simp [blocksL, List.range_succ]
theorem shorts_blocks (xs : List Nat) (z k : Nat) (hz : z ≤ 64) : shorts (blocksL xs z k) := by
  intro s hs
  obtain ⟨i, _, rfl⟩ := List.mem_map.1 hs
  rw [st_len, blk_length]
  omega
end Go.Proofs.YtakoaadimhpclaaGreatDoor
namespace Go.Proofs.YtakoaadimhpclaaGreatDoor
set_option linter.unusedVariables false
set_option linter.unusedSimpArgs false
set_option maxRecDepth 4000

/-- The n-th draw, from 1 on. -/
def drawN (L : List Nat) (n : Nat) : Nat := if n ≤ L.length then L.getD (n - 1) 0 else n * 11400714819323198485 % 18446744073709551616
theorem drawN_in {L : List Nat} {n : Nat} (h : n < L.length) : drawN L (n + 1) = L.getD n 0 := by
  unfold drawN
  rw [if_pos (by omega), Nat.add_sub_cancel]
theorem drawN_out {L : List Nat} {n : Nat} (h : L.length < n) : drawN L n = n * 11400714819323198485 % 18446744073709551616 := by
  unfold drawN
  rw [if_neg (by omega)]
theorem drawN_lt {L : List Nat} (h : smalls L) (n : Nat) : drawN L n < 18446744073709551616 := by
  unfold drawN
  split
  · exact h.get _
  · omega

/-- What is left of zs when k were taken, N draws having been used ahead. -/
def leftL (L : List Nat) (N : Nat) (zs : List Nat) : Nat → List Nat
  | 0 => zs
  | k + 1 => (leftL L N zs k).eraseIdx (drawN L (N + k + 1) % (leftL L N zs k).length)
/-- What was taken, one behind the other. -/
def picksL (L : List Nat) (N : Nat) (zs : List Nat) : Nat → List Nat
  | 0 => []
  | k + 1 => picksL L N zs k ++ [(leftL L N zs k).getD (drawN L (N + k + 1) % (leftL L N zs k).length) 0]
theorem leftL_length (L : List Nat) (N : Nat) (zs : List Nat) : ∀ k, k ≤ zs.length → (leftL L N zs k).length = zs.length - k
  | 0, _ => rfl
  | k + 1, h => by
    have ih := leftL_length L N zs k (by omega)
    have hlt : drawN L (N + k + 1) % (leftL L N zs k).length < (leftL L N zs k).length := Nat.mod_lt _ (by omega)
    show ((leftL L N zs k).eraseIdx _).length = _
    rw [List.length_eraseIdx, if_pos hlt, ih]
    omega
theorem picksL_length (L : List Nat) (N : Nat) (zs : List Nat) : ∀ k, (picksL L N zs k).length = k
  | 0 => rfl
  | k + 1 => by
    show (picksL L N zs k ++ [_]).length = _
    rw [List.length_append, picksL_length L N zs k]; rfl
theorem erase_perm (l : List Nat) (j : Nat) (h : j < l.length) : (l.getD j 0 :: l.eraseIdx j).Perm l := by
  rw [List.eraseIdx_eq_take_drop_succ]
  have e : l = l.take j ++ l.getD j 0 :: l.drop (j + 1) := by
    rw [List.getD_eq_getElem?_getD, List.getElem?_eq_getElem h]
    simp
  exact (List.perm_middle.symm).trans (List.Perm.of_eq e.symm)
theorem picks_perm (L : List Nat) (N : Nat) (zs : List Nat) : ∀ k, k ≤ zs.length → (picksL L N zs k ++ leftL L N zs k).Perm zs
  | 0, _ => List.Perm.refl _
  | k + 1, h => by
    have ih := picks_perm L N zs k (by omega)
    have hl := leftL_length L N zs k (by omega)
    have hlt : drawN L (N + k + 1) % (leftL L N zs k).length < (leftL L N zs k).length := Nat.mod_lt _ (by omega)
    show ((picksL L N zs k ++ [_]) ++ (leftL L N zs k).eraseIdx _).Perm zs
    rw [List.append_assoc]
    exact (List.Perm.append_left _ (erase_perm _ _ hlt)).trans ih
/-- What was taken of the numbers below n, rising. -/
def distL (L : List Nat) (N n k : Nat) : List Nat := (List.range n).filter fun i => decide (i ∉ leftL L N (List.range n) k)
theorem dist_perm (L : List Nat) (N n k : Nat) (h : k ≤ n) : (picksL L N (List.range n) k).Perm (distL L N n k) := by
  have hp := picks_perm L N (List.range n) k (by simpa using h)
  have hn := hp.symm.nodup List.nodup_range
  obtain ⟨_, _, hd⟩ := List.nodup_append.1 hn
  have hf := hp.filter fun i => decide (i ∉ leftL L N (List.range n) k)
  have h1 : (picksL L N (List.range n) k).filter (fun i => decide (i ∉ leftL L N (List.range n) k)) = picksL L N (List.range n) k := List.filter_eq_self.2 fun a ha => by simpa using fun hb => hd a ha a hb rfl
  have h2 : (leftL L N (List.range n) k).filter (fun i => decide (i ∉ leftL L N (List.range n) k)) = [] := List.filter_eq_nil_iff.2 fun a ha => by simp [ha]
  rw [List.filter_append, h1, h2, List.append_nil] at hf
  exact hf
theorem distL_length (L : List Nat) (N n k : Nat) (h : k ≤ n) : (distL L N n k).length = k := by
  rw [← (dist_perm L N n k h).length_eq, picksL_length]
def castZ (l : List Nat) : List Int := l.map fun (x : Nat) => (x : Int)
theorem castZ_length (l : List Nat) : (castZ l).length = l.length := by simp [castZ]
theorem castZ_getD (l : List Nat) (i : Nat) : (castZ l).getD i 0 = ((l.getD i 0 : Nat) : Int) := by
  simp only [castZ, List.getD_eq_getElem?_getD, List.getElem?_map]
  cases l[i]? <;> rfl
theorem castZ_append (l m : List Nat) : castZ (l ++ m) = castZ l ++ castZ m := by simp [castZ]
theorem castZ_erase (l : List Nat) (j : Nat) : castZ (l.eraseIdx j) = (castZ l).eraseIdx j := by
  simp [castZ, List.eraseIdx_eq_take_drop_succ, List.map_take, List.map_drop]
theorem dist_sort (L : List Nat) (N n k : Nat) (h : k ≤ n) : (castZ (picksL L N (List.range n) k)).mergeSort (fun x y => decide (x ≤ y)) = castZ (distL L N n k) := by
  have hp : ((castZ (picksL L N (List.range n) k)).mergeSort fun x y => decide (x ≤ y)).Perm (castZ (distL L N n k)) := (List.mergeSort_perm _ _).trans ((dist_perm L N n k h).map _)
  refine List.Perm.eq_of_pairwise (le := fun x y : Int => x ≤ y) (fun a b _ _ h1 h2 => Int.le_antisymm h1 h2) ?_ ?_ hp
  · have := List.pairwise_mergeSort (le := fun x y : Int => decide (x ≤ y)) (fun a b c h1 h2 => by simp at *; omega) (fun a b => by simp; omega) (castZ (picksL L N (List.range n) k))
    exact this.imp fun h => by simpa using h
  · have : (distL L N n k).Pairwise (· < ·) := List.Pairwise.filter _ List.pairwise_lt_range
    exact List.Pairwise.map _ (fun a b hab => by omega) this
theorem distL_lt (L : List Nat) (N n k i : Nat) (h : i < (distL L N n k).length) : (distL L N n k).getD i 0 < n := by
  have hm : (distL L N n k)[i] ∈ distL L N n k := List.getElem_mem h
  have := (List.mem_filter.1 hm).1
  simpa [List.getD_eq_getElem?_getD, List.getElem?_eq_getElem h] using this

end Go.Proofs.YtakoaadimhpclaaGreatDoor
