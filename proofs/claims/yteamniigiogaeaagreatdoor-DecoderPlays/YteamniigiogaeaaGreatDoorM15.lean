/-
  Which packets may be (CheckP); bools and errors' numbers that tell a proposition. No condition.
  Blocks of a text, on plain lists: how many ('kc'), what each holds ('blk'), all of them ('blocksL'), joined. No condition.
  Plain mathematics of the decoder: peeling hangs on rows' bits and texts alone; rows of full rank tell all blocks, each of the rows' size; what a put makes of a decoder (dput, dputE), and what always holds of it (DInv). No condition.
  A block of many cells ('BkA'). No condition.
  The decoder in memory ('DcAt'): its block, its store, what it is at. No condition.
-/
import Derived.Test.YteamniigiogaeaaGreatDoorM3
import Derived.Test.YteamniigiogaeaaGreatDoorM2
import Derived.Test.YteamniigiogaeaaGreatDoorJV
import Derived.Test.YteamniigiogaeaaGreatDoorM14
import Derived.Test.YteamniigiogaeaaGreatDoorOA
namespace Go.Proofs.YteamniigiogaeaaGreatDoor
set_option linter.unusedVariables false
set_option maxRecDepth 4000

/-- A bool that tells P. -/
def TB (b : Bool) (P : Prop) : Prop := b = true ↔ P
theorem tb_ex (P : Prop) : ∃ b, TB b P := by
  by_cases h : P
  · exact ⟨true, by simp [TB, h]⟩
  · exact ⟨false, by simp [TB, h]⟩
theorem TB.no {b : Bool} {P : Prop} (h : TB b P) (hp : ¬ P) : b = false := by
  cases b
  · rfl
  · exact absurd (h.1 rfl) hp
theorem TB.yes {b : Bool} {P : Prop} (h : TB b P) (hp : P) : b = true := h.2 hp
/-- The error's number of what may be, or not. -/
def CkP (en : Nat) (P : Prop) : Prop := (P ∧ en = 0) ∨ (¬ P ∧ en = 1)
theorem ck_ex (P : Prop) : ∃ en, CkP en P := by
  by_cases h : P
  · exact ⟨0, .inl ⟨h, rfl⟩⟩
  · exact ⟨1, .inr ⟨h, rfl⟩⟩
theorem CkP.yes {en : Nat} {P : Prop} (h : CkP en P) (hp : P) : en = 0 := by
  rcases h with ⟨_, h⟩ | ⟨h, _⟩
  · exact h
  · exact absurd hp h
theorem CkP.no {en : Nat} {P : Prop} (h : CkP en P) (hp : ¬ P) : en = 1 := by
  rcases h with ⟨h, _⟩ | ⟨_, h⟩
  · exact absurd h hp
  · exact h

def shapedP (k z : Int) : Prop := (1 ≤ k ∧ k ≤ 128) ∧ 1 ≤ z ∧ z ≤ 64
def boundP (o l k z h : Int) : Prop := shapedP k z ∧ (0 ≤ o ∧ o ≤ 4294967295) ∧ (0 ≤ l ∧ l ≤ k * z) ∧ 0 ≤ h ∧ h ≤ 15
def rowedP (k z : Int) (xs : List Nat) (n : Nat) : Prop := ValidP k xs ∧ 0 < cnt xs ∧ (n : Int) = z
/-- A packet that may be: n is how many bytes its text has. -/
def CheckP (o l k z h : Int) (xs : List Nat) (n : Nat) : Prop := boundP o l k z h ∧ rowedP k z xs n
theorem mul_le {k z : Int} (h : shapedP k z) : 0 ≤ k * z ∧ k * z ≤ 8192 := by
  obtain ⟨⟨h1, h2⟩, h3, h4⟩ := h
  have e1 : 0 ≤ k * z := Int.mul_nonneg (by omega) (by omega)
  have e2 : k * z ≤ 128 * z := Int.mul_le_mul_of_nonneg_right h2 (by omega)
  omega

end Go.Proofs.YteamniigiogaeaaGreatDoor
namespace Go.Proofs.YteamniigiogaeaaGreatDoor
open Go.RowKit
set_option linter.unusedVariables false
set_option maxRecDepth 4000

/-- How many blocks of z bytes n bytes have. -/
def kc (n z : Nat) : Nat := if 0 < n % z ∨ n / z = 0 then n / z + 1 else n / z
theorem kc_pos (n z : Nat) : 1 ≤ kc n z := by
  unfold kc
  generalize n / z = q
  generalize n % z = r
  split <;> rename_i h <;> omega
theorem kc_enough (n z : Nat) (hz : 0 < z) : n ≤ kc n z * z := by
  have h1 := Nat.div_add_mod n z
  have h2 := Nat.mod_lt n hz
  rw [Nat.mul_comm] at h1
  unfold kc
  split
  · rw [Nat.add_mul]; omega
  · rename_i h
    have : n % z = 0 := by omega
    omega
theorem kc_least (n z k : Nat) (hz : 0 < z) (hk : 1 ≤ k) (h : n ≤ k * z) : kc n z ≤ k := by
  have h1 := Nat.div_add_mod n z
  have h2 := Nat.mod_lt n hz
  rw [Nat.mul_comm] at h1
  unfold kc
  split
  · rename_i hc
    rcases hc with hc | hc
    · rcases Nat.lt_or_ge (n / z) k with h' | h'
      · omega
      · have := Nat.mul_le_mul_right z h'
        omega
    · omega
  · rename_i hc
    rcases Nat.lt_or_ge k (n / z) with h' | h'
    · have := Nat.mul_le_mul_right z (Nat.succ_le_of_lt h')
      rw [Nat.succ_mul] at this
      omega
    · exact h'
theorem kc_great (n z k : Nat) (hz : 0 < z) (hk : 1 ≤ k) : k < kc n z ↔ k * z < n := by
  constructor
  · intro h
    rcases Nat.lt_or_ge (k * z) n with h' | h'
    · exact h'
    · have := kc_least n z k hz hk h'
      omega
  · intro h
    have h1 := kc_enough n z hz
    rcases Nat.lt_or_ge k (kc n z) with h' | h'
    · exact h'
    · have := Nat.mul_le_mul_right z h'
      omega
theorem kc_eq (n z k : Nat) (hz : 0 < z) (hk : 1 ≤ k) (h : n ≤ k * z) (hl : k = 1 ∨ (k - 1) * z < n) : kc n z = k := by
  have h1 := kc_least n z k hz hk h
  rcases hl with rfl | hl
  · have := kc_pos n z; omega
  · by_cases e : k = 1
    · subst e; have := kc_pos n z; omega
    · have := (kc_great n z (k - 1) hz (by omega)).2 hl
      omega

/-- The error's number, and how many blocks. -/
def planE (n z : Int) : Int := if n < 0 ∨ z < 1 ∨ 64 < z then 1 else if 128 < kc n.toNat z.toNat then 2 else 0
def planK (n z : Int) : Int := if planE n z = 0 then (kc n.toNat z.toNat : Int) else 0
theorem plan_arg {n z : Int} (h : n < 0 ∨ z < 1 ∨ 64 < z) : planE n z = 1 ∧ planK n z = 0 := by
  have e : planE n z = 1 := if_pos h
  exact ⟨e, by unfold planK; rw [e]; rfl⟩
theorem plan_size {n z : Nat} (h1 : 1 ≤ z) (h2 : z ≤ 64) (h : 128 < kc n z) : planE (n : Int) (z : Int) = 2 ∧ planK (n : Int) (z : Int) = 0 := by
  have e : planE (n : Int) (z : Int) = 2 := by
    unfold planE
    rw [if_neg (by omega), if_pos (by simpa using h)]
  exact ⟨e, by unfold planK; rw [e]; rfl⟩
theorem plan_ok {n z : Nat} (h1 : 1 ≤ z) (h2 : z ≤ 64) (h : kc n z ≤ 128) : planE (n : Int) (z : Int) = 0 ∧ planK (n : Int) (z : Int) = (kc n z : Int) := by
  have e : planE (n : Int) (z : Int) = 0 := by
    unfold planE
    rw [if_neg (by omega), if_neg (by simp; omega)]
  exact ⟨e, by unfold planK; rw [e]; simp⟩
/-- What is asked of n and z where there are blocks. -/
theorem plan_yes {n : Nat} {z : Int} (h : planE (n : Int) z = 0) : ∃ Z : Nat, z = (Z : Int) ∧ 1 ≤ Z ∧ Z ≤ 64 ∧ kc n Z ≤ 128 := by
  unfold planE at h
  split at h
  · omega
  · rename_i hc
    obtain ⟨Z, rfl⟩ : ∃ Z : Nat, z = (Z : Int) := ⟨z.toNat, by omega⟩
    split at h
    · omega
    · rename_i hk
      simp only [Int.toNat_natCast] at hk
      exact ⟨Z, rfl, by omega, by omega, by omega⟩
theorem planE_cases (n z : Int) : planE n z = 0 ∨ planE n z = 1 ∨ planE n z = 2 := by
  unfold planE
  split
  · exact .inr (.inl rfl)
  · split
    · exact .inr (.inr rfl)
    · exact .inl rfl

/-- The block i of xs, zeros behind. -/
def pad (z : Nat) (t : List Nat) : List Nat := t ++ List.replicate (z - t.length) 0
def blk (xs : List Nat) (z i : Nat) : List Nat := pad z ((xs.drop (i * z)).take z)
def blocksL (xs : List Nat) (z k : Nat) : List ByteArray := (List.range k).map fun i => st (blk xs z i)
theorem pad_length (z : Nat) (t : List Nat) (h : t.length ≤ z) : (pad z t).length = z := by
  unfold pad
  rw [List.length_append, List.length_replicate]
  omega
theorem blk_length (xs : List Nat) (z i : Nat) : (blk xs z i).length = z := pad_length _ _ (List.length_take_le _ _)
theorem blocksL_length (xs : List Nat) (z k : Nat) : (blocksL xs z k).length = k := by simp [blocksL]
theorem blocksL_succ (xs : List Nat) (z k : Nat) : blocksL xs z (k + 1) = blocksL xs z k ++ [st (blk xs z k)] := by
  simp [blocksL, List.range_succ]
theorem pad_bytes {z : Nat} {t : List Nat} (h : bytes t) : bytes (pad z t) := by
  intro x hx
  rcases List.mem_append.1 hx with hx | hx
  · exact h x hx
  · rw [(List.mem_replicate.1 hx).2]; decide
theorem blk_bytes {xs : List Nat} (h : bytes xs) (z i : Nat) : bytes (blk xs z i) := pad_bytes (bytes_take (bytes_drop h _) _)
theorem getD_pad (z : Nat) (t : List Nat) (j : Nat) : (pad z t).getD j 0 = t.getD j 0 := by
  unfold pad
  rw [List.getD_eq_getElem?_getD, List.getD_eq_getElem?_getD]
  by_cases h : j < t.length
  · rw [List.getElem?_append_left h]
  · rw [List.getElem?_append_right (by omega), List.getElem?_eq_none (l := t) (by omega), List.getElem?_replicate]
    split <;> rfl
theorem getD_take (xs : List Nat) (k j : Nat) : (xs.take k).getD j 0 = if j < k then xs.getD j 0 else 0 := by
  rw [List.getD_eq_getElem?_getD, List.getD_eq_getElem?_getD, List.getElem?_take]
  split <;> rfl
theorem getD_drop (xs : List Nat) (k j : Nat) : (xs.drop k).getD j 0 = xs.getD (k + j) 0 := by
  rw [List.getD_eq_getElem?_getD, List.getD_eq_getElem?_getD, List.getElem?_drop]
theorem blk_getD (xs : List Nat) (z i j : Nat) (h : j < z) : (blk xs z i).getD j 0 = xs.getD (i * z + j) 0 := by
  unfold blk
  rw [getD_pad, getD_take, if_pos h, getD_drop]
/-- Cut out of the text with all zeros behind it. -/
theorem blk_ref (xs : List Nat) (z k i : Nat) (hi : i < k) : ((pad (k * z) xs).drop (i * z)).take z = blk xs z i := by
  have h1 : (i + 1) * z ≤ k * z := Nat.mul_le_mul_right z hi
  rw [Nat.add_mul] at h1
  apply ext_getD
  · rw [blk_length, List.length_take, List.length_drop]
    have : k * z ≤ (pad (k * z) xs).length := by
      unfold pad
      rw [List.length_append, List.length_replicate]
      omega
    omega
  · intro j hj
    have hj' : j < z := by
      rw [List.length_take] at hj
      omega
    rw [getD_take, if_pos hj', getD_drop, getD_pad, blk_getD _ _ _ _ hj']
/-- All blocks, one behind the other. -/
def joinL (ss : List ByteArray) : List Nat := ss.flatMap tx
theorem joinL_snoc (ss : List ByteArray) (s : ByteArray) : joinL (ss ++ [s]) = joinL ss ++ tx s := by simp [joinL]
theorem joinL_bytes (ss : List ByteArray) : bytes (joinL ss) := by
  intro x hx
  obtain ⟨s, _, hs⟩ := List.mem_flatMap.1 hx
  exact tx_bytes s x hs
theorem joinL_take (ss : List ByteArray) (k : Nat) (h : k < ss.length) : joinL (ss.take (k + 1)) = joinL (ss.take k) ++ tx (ss.getD k ByteArray.empty) := by
  rw [List.take_succ_eq_append_getElem h, joinL_snoc]
  simp [List.getD_eq_getElem?_getD, List.getElem?_eq_getElem h]
theorem joinL_le (ss : List ByteArray) (k : Nat) : (joinL (ss.take k)).length ≤ (joinL ss).length := by
  conv => rhs; rw [← List.take_append_drop k ss]
  unfold joinL
  rw [List.flatMap_append, List.length_append]
  omega
theorem joinL_blocks {xs : List Nat} (hx : bytes xs) (z : Nat) : ∀ k, k * z ≤ xs.length → joinL (blocksL xs z k) = xs.take (k * z)
  | 0, _ => by simp [blocksL, joinL]
  | k + 1, h => by
    rw [Nat.add_mul, Nat.one_mul] at h
    rw [blocksL_succ, joinL_snoc, joinL_blocks hx z k (by omega), tx_st (blk_bytes hx z k), Nat.add_mul, Nat.one_mul, List.take_add]
    congr 1
    unfold blk pad
    rw [List.length_take, List.length_drop]
    rw [show z - min z (xs.length - k * z) = 0 by omega]
    simp
/-- Joined, and cut to what they were. -/
theorem join_back {xs : List Nat} (hx : bytes xs) (z k : Nat) (hk : 1 ≤ k) (h : xs.length ≤ k * z) (hl : k = 1 ∨ (k - 1) * z < xs.length) : (joinL (blocksL xs z k)).take xs.length = xs := by
  obtain ⟨j, rfl⟩ : ∃ j, k = j + 1 := ⟨k - 1, by omega⟩
  have hj : j * z ≤ xs.length := by
    rcases hl with hl | hl
    · obtain rfl : j = 0 := by omega
      omega
    · simp at hl; omega
  rw [blocksL_succ, joinL_snoc, joinL_blocks hx z j hj, tx_st (blk_bytes hx z j)]
  rw [Nat.add_mul, Nat.one_mul] at h
  have e : (xs.drop (j * z)).take z = xs.drop (j * z) := List.take_of_length_le (by rw [List.length_drop]; omega)
  unfold blk pad
  rw [e, ← List.append_assoc, List.take_append_drop, List.take_append_of_le_length (Nat.le_refl _), List.take_length]
theorem joinL_total (xs : List Nat) (z : Nat) : ∀ k, (joinL (blocksL xs z k)).length = k * z
  | 0 => by simp [blocksL, joinL]
  | k + 1 => by
    rw [blocksL_succ, joinL_snoc, List.length_append, joinL_total xs z k, tx_length, st_len, blk_length, Nat.add_mul, Nat.one_mul]
/-- A byte 0 behind it. -/
theorem blk_more (xs : List Nat) (z i : Nat) : blk (xs ++ [0]) z i = blk xs z i := by
  apply ext_getD
  · rw [blk_length, blk_length]
  · intro j hj
    rw [blk_length] at hj
    rw [blk_getD _ _ _ _ hj, blk_getD _ _ _ _ hj]
    rw [List.getD_eq_getElem?_getD, List.getD_eq_getElem?_getD]
    rcases Nat.lt_trichotomy (i * z + j) xs.length with h | h | h
    · rw [List.getElem?_append_left h]
    · rw [List.getElem?_append_right (by omega), List.getElem?_eq_none (l := xs) (by omega)]
      simp [h]
    · rw [List.getElem?_eq_none (by simp; omega), List.getElem?_eq_none (by omega)]
theorem blocks_more (xs : List Nat) (z k : Nat) : blocksL (xs ++ [0]) z k = blocksL xs z k := by
  unfold blocksL
  congr 1
  funext i
  rw [blk_more]
theorem kc_more (n z : Nat) (hz : 0 < z) (h : n < kc n z * z) : kc (n + 1) z = kc n z := by
  apply kc_eq _ _ _ hz (kc_pos n z) (by omega)
  by_cases e : kc n z = 1
  · exact .inl e
  · right
    have := (kc_great n z (kc n z - 1) hz (by have := kc_pos n z; omega)).1 (by have := kc_pos n z; omega)
    omega
theorem shorts_blocks (xs : List Nat) (z k : Nat) (hz : z ≤ 64) : shorts (blocksL xs z k) := by
  intro s hs
  obtain ⟨i, _, rfl⟩ := List.mem_map.1 hs
  rw [st_len, blk_length]
  omega
theorem blocks_get (xs : List Nat) (z k i : Nat) (h : i < k) : (blocksL xs z k).getD i ByteArray.empty = st (blk xs z i) := by
  unfold blocksL
  rw [List.getD_eq_getElem?_getD, List.getElem?_map, List.getElem?_range h]
  rfl
end Go.Proofs.YteamniigiogaeaaGreatDoor
namespace Go.Proofs.YteamniigiogaeaaGreatDoor
open Go.RowKit Go.Sort
set_option linter.unusedVariables false
set_option maxRecDepth 4000

theorem find_core (p : List Nat × ByteArray → Bool) {rs rs' : List RV} (h : rs.map core = rs'.map core) : (rs.find? (fun r => p (core r))).map core = (rs'.find? (fun r => p (core r))).map core := by
  have := congrArg (List.find? p) h
  rw [List.find?_map, List.find?_map] at this
  exact this
def tellC (k : Int) (kn : List Nat) (x : List Nat × ByteArray) : Bool := validB k x.1 && decide (cnt (dropL x.1 kn) = 1)
theorem tells_core (k : Int) (kn : List Nat) : tellsB k kn = fun r => tellC k kn (core r) := rfl
theorem run_core {k : Int} {rs rs' : List RV} (h : rs.map core = rs'.map core) : ∀ {j : Nat} {kn : List Nat} {bs : List ByteArray}, Run k rs j kn bs → Run k rs' j kn bs
  | 0, _, _, hr => hr
  | j + 1, kn, bs, ⟨kn0, bs0, r, h1, h2, h3, h4⟩ => by
    have hf := find_core (tellC k kn0) h
    rw [tells_core] at h2
    rw [h2] at hf
    obtain ⟨r', hr', he⟩ := Option.map_eq_some_iff.1 hf.symm
    have e1 : r'.xs = r.xs := congrArg Prod.fst he
    have e2 : r'.s = r.s := congrArg Prod.snd he
    refine ⟨kn0, bs0, r', run_core h h1, hr', ?_, ?_⟩
    · rw [h3]; unfold blkOf; rw [e1]
    · rw [h4]; unfold blkOf; rw [e1, e2]
/-- Peeling hangs on the rows' bits and texts alone. -/
theorem peel_core {k : Int} {rs rs' : List RV} {kn : List Nat} {bs : List ByteArray} (h : rs.map core = rs'.map core) (hP : PeelP k rs kn bs) : PeelP k rs' kn bs := by
  obtain ⟨⟨j, hj⟩, hn⟩ := hP
  refine ⟨⟨j, run_core h hj⟩, ?_⟩
  have hf := find_core (tellC k kn) h
  rw [tells_core] at hn
  rw [hn] at hf
  exact Option.map_eq_none_iff.1 hf.symm
def restC (k : Int) (kn : List Nat) (x : List Nat × ByteArray) : Bool := validB k x.1 && !decide (cnt (dropL x.1 kn) = 0) && !decide (cnt (dropL x.1 kn) = 1)
theorem rest_fst (k : Int) (ts : List RV) (kn : List Nat) (bs : List ByteArray) : restL k ts kn bs = ((ts.map core).filter (restC k kn)).map fun x => (dropL x.1 kn, txtL bs x.1 x.2) := by
  unfold restL
  rw [List.filter_map, List.map_map]
  rfl
theorem peelC_core {k : Int} {rs rs' : List RV} {kn : List Nat} {bs : List ByteArray} (h : rs.map core = rs'.map core) : peelC k rs kn bs = peelC k rs' kn bs := by
  unfold peelC
  rw [rest_fst, rest_fst, h]
/-- The object that rows tell. -/
def ObjP (k l : Int) (L : List (List Nat × ByteArray)) (ob : ByteArray) : Prop := ∃ rs kn bs, rs.map core = L ∧ PeelP k rs kn bs ∧ ob = st ((joinL (solveC k (peelC k rs kn bs))).take l.toNat)
theorem ObjP.uniq {k l : Int} {L : List (List Nat × ByteArray)} {a b : ByteArray} (h : ObjP k l L a) (g : ObjP k l L b) : a = b := by
  obtain ⟨rs, kn, bs, h1, h2, rfl⟩ := h
  obtain ⟨rs', kn', bs', g1, g2, rfl⟩ := g
  have hc : rs.map core = rs'.map core := h1.trans g1.symm
  obtain ⟨rfl, rfl⟩ := (peel_core hc h2).uniq g2
  rw [peelC_core hc]

theorem ObjP.size {k l : Int} {L : List (List Nat × ByteArray)} {a : ByteArray} (h : ObjP k l L a) : a.size ≤ l.toNat := by
  obtain ⟨rs, kn, bs, _, _, rfl⟩ := h
  rw [st_len]
  exact List.length_take_le _ _

theorem joinL_same {m : Nat} : ∀ {ss : List ByteArray}, (∀ s ∈ ss, s.size = m) → (joinL ss).length = ss.length * m
  | [], _ => by simp [joinL]
  | s :: ss, h => by
    have h1 := joinL_same (ss := ss) fun t ht => h t (List.mem_cons_of_mem _ ht)
    have h2 := h s List.mem_cons_self
    unfold joinL at *
    rw [List.flatMap_cons, List.length_append, h1, tx_length, h2, List.length_cons, Nat.add_mul, Nat.one_mul, Nat.add_comm]
theorem sum_same {m : Nat} {L : List (List Nat × ByteArray)} : ∀ (ps : List Nat) (a : List Nat), (∀ i ∈ ps, (L.getD i zC).2.size = m) → a.length = m ∨ (a.length ≤ m ∧ ps ≠ []) → ((textsC L ps).foldl (fun a s => xorL a (tx s)) a).length = m
  | [], a, _, h => by
    rcases h with h | h
    · exact h
    · exact absurd rfl h.2
  | i :: ps, a, hp, h => by
    unfold textsC
    rw [List.map_cons, List.foldl_cons]
    refine sum_same ps _ (fun q hq => hp q (List.mem_cons_of_mem _ hq)) (.inl ?_)
    have := hp i List.mem_cons_self
    rw [xorL_length, tx_length, this]
    rcases h with h | h <;> omega
/-- Rows of one size and of full rank: each block is of that size. -/
theorem block_same {K m : Nat} {L : List (List Nat × ByteArray)} (hz : 0 < sizeOfK (K : Int)) (hf : FitC 1048576 L) (hn : L.length ≤ 100000) (hv : ∀ x ∈ L, validB (K : Int) x.1 = true) (hm : ∀ x ∈ L, x.2.size = m)
    (hr : (basisL (vecsC L)).length = K) {b : Nat} (hb : b < K) : (blockC (K : Int) L b).size = m := by
  have hbk : ((b : Nat) : Int) < (K : Int) := by omega
  have hu : val (unitL (K : Int) (b : Int)) = 2 ^ b := val_one (unit_small hbk) (unit_bit hz hbk)
  have hul : (unitL (K : Int) (b : Int)).length ≤ 1048576 := by rw [unit_len hbk]; have := sizeOfK_le (K : Int); omega
  have hsp : Ech.Sp ((vecsC (keptC L)).map val) (val (unitL (K : Int) (b : Int))) := by
    rw [vecs_kept, kept_sp hf, hu]
    have hvv : ∀ v ∈ vecsC L, validB (K : Int) v = true := fun v hv' => by
      obtain ⟨x, hx, rfl⟩ := List.mem_map.1 hv'
      exact hv x hx
    exact (rank_full hf hvv).2 (by rw [Int.toNat_natCast]; exact hr) b (by rw [Int.toNat_natCast]; exact hb)
  have hfk := hf.kept
  have hkn : (vecsC (keptC L)).length ≤ 100000 := by
    rw [vecsC_len, kept_length]
    have := keep_len (vecsC L) L.length
    omega
  obtain ⟨c, hc⟩ := choice_of hfk hsp
  have hyes : firstI (reduceL (broughtL (vecsC (keptC L))) (unitL (K : Int) (b : Int))) < 0 := (brought_in hfk (unit_small hbk) hul).2 hsp
  have hex : exL (vecsC (keptC L)) (unitL (K : Int) (b : Int)) = exprL (vecsC (keptC L)) (unitL (K : Int) (b : Int)) := by unfold exL; rw [if_pos hyes]
  unfold blockC
  rw [hex, st_len]
  have hch := expr_choice hfk hkn (unit_small hbk) hc
  have hsum : val (sumV (vecsC (keptC L)) (exprL (vecsC (keptC L)) (unitL (K : Int) (b : Int)))) = 2 ^ b := by
    rw [hch, ← hu]
    exact hc.sum hfk
  have hlt := expr_lt _ hfk hkn (unit_small hbk) hc
  refine sum_same _ [] (fun i hi => ?_) (.inr ⟨Nat.zero_le _, fun hne => ?_⟩)
  · have hlt := hlt i hi
    rw [vecsC_len] at hlt
    rw [List.getD_eq_getElem?_getD, List.getElem?_eq_getElem hlt]
    exact hm _ (kept_mem (List.getElem_mem hlt))
  · rw [hne] at hsum
    have h0 : val (sumV (vecsC (keptC L)) []) = 0 := by simp [sumV, val]
    rw [h0] at hsum
    have := Nat.two_pow_pos b
    omega

/-- Rows of k blocks, of one size and of full rank: all blocks are told, each of that size. -/
theorem full_told {K m : Nat} {rs : List RV} {kn : List Nat} {bs : List ByteArray} (hP : PeelP (K : Int) rs kn bs) (hg : Good rs) (hl : ∀ r ∈ rs, r.xs.length ≤ 10) (hn : rs.length ≤ 300) (hz : 0 < sizeOfK (K : Int)) (hv : ∀ r ∈ rs, validB (K : Int) r.xs = true) (hm : ∀ r ∈ rs, r.s.size = m) (hk : rankC (rs.map core) = K) :
    okC (K : Int) (peelC (K : Int) rs kn bs) = true ∧ (solveC (K : Int) (peelC (K : Int) rs kn bs)).length = K ∧ ∀ s ∈ solveC (K : Int) (peelC (K : Int) rs kn bs), s.size = m := by
  have hval := peel_valid hP hg
  have hz2 := sizeOfK_le (K : Int)
  have hroom := size_room hz
  obtain ⟨j, hK⟩ := hP.kn hg hz
  have hf : FitC 1048576 (peelC (K : Int) rs kn bs) := fun v hv => by
    obtain ⟨x, hx, rfl⟩ := List.mem_map.1 hv
    refine ⟨?_, by have := (valid_size (hval x hx)).2.1; omega⟩
    unfold peelC at hx
    rcases List.mem_append.1 hx with hx | hx
    · obtain ⟨b, hb, _, rfl⟩ := told_mem hK hx
      exact unit_small (by omega)
    · unfold restL at hx
      obtain ⟨r, hr, rfl⟩ := List.mem_map.1 hx
      exact dropL_small (hg r (List.mem_filter.1 hr).1).1 _
  have hln : (peelC (K : Int) rs kn bs).length ≤ 100000 := by
    unfold peelC toldTo restL
    rw [List.length_append, List.length_map, List.length_map]
    have h1 := List.length_filter_le (fun b => getB kn b) (List.range (K : Int).toNat)
    have h2 := List.length_filter_le (restB (K : Int) kn) rs
    rw [List.length_range] at h1
    omega
  have hfr : Fit 1048576 (vecsL rs) := by
    have := fit_filter hg hl (fun _ => true)
    rwa [List.filter_eq_self.2 (fun _ _ => rfl)] at this
  have hfl : (rs.filter fun r => validB (K : Int) r.xs) = rs := List.filter_eq_self.2 hv
  have hr : (basisL (vecsC (peelC (K : Int) rs kn bs))).length = K := by
    have h1 : (basisL (vecsC (peelC (K : Int) rs kn bs))).length = rankV (K : Int) rs := rank_eq hf (fit_filter hg hl _) (peel_span hP hg)
    rw [h1]
    unfold rankV
    rw [hfl, ← keep_rank hfr, vecsL_len, ← hk, ← rankN_core]
    rfl
  have hkr : (keepL (vecsC (peelC (K : Int) rs kn bs)) (peelC (K : Int) rs kn bs).length).length = K := by
    have := keep_rank hf
    rw [vecsC_len] at this
    exact this.trans hr
  have hok : okC (K : Int) (peelC (K : Int) rs kn bs) = true := by
    unfold okC
    rw [decide_eq_true hz, Bool.true_and, hkr]
    exact decide_eq_true (Int.le_refl _)
  obtain ⟨⟨jj, hjj⟩, _⟩ := id hP
  obtain ⟨s1, s2⟩ := run_sizes hz hg hm hjj
  have hms : ∀ x ∈ peelC (K : Int) rs kn bs, x.2.size = m := fun x hx => by
    unfold peelC at hx
    rcases List.mem_append.1 hx with hx | hx
    · obtain ⟨b, hb, hgb, rfl⟩ := told_mem hK hx
      exact s1 b hgb
    · unfold restL at hx
      obtain ⟨r, hr, rfl⟩ := List.mem_map.1 hx
      exact txtL_same s2 (hm r (List.mem_filter.1 hr).1)
  have hs : solveC (K : Int) (peelC (K : Int) rs kn bs) = (List.range K).map (blockC (K : Int) (peelC (K : Int) rs kn bs)) := by
    unfold solveC
    rw [if_pos hok, Int.toNat_natCast]
  refine ⟨hok, by rw [hs, List.length_map, List.length_range], fun s hsm => ?_⟩
  rw [hs] at hsm
  obtain ⟨b, hb, rfl⟩ := List.mem_map.1 hsm
  exact block_same hz hf hln hval hms hr (List.mem_range.1 hb)

/-- A decoder: whether it has begun; of which object; what it keeps; whether one was left over, whether it is done, and the object. -/
structure DS where
  bg : Bool
  o : Int
  l : Int
  k : Int
  z : Int
  L : List (List Nat × ByteArray)
  ov : Bool
  dn : Bool
  ob : ByteArray
def zDS : DS := ⟨false, 0, 0, 0, 0, [], false, false, ⟨#[]⟩⟩
/-- A packet that may be. -/
def okB (p : PKV) : Bool := decide (((1 ≤ p.k ∧ p.k ≤ 128) ∧ 1 ≤ p.z ∧ p.z ≤ 64) ∧ (0 ≤ p.o ∧ p.o ≤ 4294967295) ∧ (0 ≤ p.l ∧ p.l ≤ p.k * p.z) ∧ 0 ≤ p.h ∧ p.h ≤ 15) && fitB p.k p.z (p.r.xs, p.r.s)
theorem fitB_iff {k z : Int} {x : List Nat × ByteArray} : fitB k z x = true ↔ rowedP k z x.1 x.2.size := by
  unfold fitB rowedP
  rw [Bool.and_eq_true, Bool.and_eq_true, validB_iff, decide_eq_true_iff, decide_eq_true_iff, and_assoc]
theorem okB_iff {p : PKV} : okB p = true ↔ CheckP p.o p.l p.k p.z p.h p.r.xs p.r.s.size := by
  unfold okB CheckP
  rw [Bool.and_eq_true, decide_eq_true_iff, fitB_iff]
  rfl
theorem okB_ck (p : PKV) : CkP (if okB p = true then 0 else 1) (CheckP p.o p.l p.k p.z p.h p.r.xs p.r.s.size) := by
  by_cases h : okB p = true
  · rw [if_pos h]; exact .inl ⟨okB_iff.1 h, rfl⟩
  · rw [if_neg h]; exact .inr ⟨fun hc => h (okB_iff.2 hc), rfl⟩
def alikeB (s : DS) (p : PKV) : Bool := decide (p.o = s.o ∧ p.l = s.l ∧ p.k = s.k ∧ p.z = s.z)
/-- May it be put? -/
def admB (s : DS) (p : PKV) : Bool := okB p && (!s.bg || alikeB s p)
def begS (s : DS) (p : PKV) : DS := if s.bg = true then s else ⟨true, p.o, p.l, p.k, p.z, [], false, false, ⟨#[]⟩⟩
def newlyB (M : Int) (s : DS) (x : List Nat × ByteArray) : Bool := !s.dn && (decide (s.L.length < capN M) && decide ((rankC (s.L ++ [x]) : Int) = s.k))
/-- A row is kept, or not; ob is the object, if it is told now. -/
def keepS (M : Int) (s : DS) (x : List Nat × ByteArray) (ob : ByteArray) : DS :=
  if s.dn = true then s
  else if s.L.length < capN M then (if (rankC (s.L ++ [x]) : Int) = s.k then { s with L := s.L ++ [x], dn := true, ob := ob } else { s with L := s.L ++ [x] })
  else { s with ov := true }
def keepE (M : Int) (s : DS) : Int := if s.dn = true then 0 else if s.L.length < capN M then 0 else 5
def dput (M : Int) (s : DS) (p : PKV) (ob : ByteArray) : DS := if admB s p = true then keepS M (begS s p) (p.r.xs, p.r.s) ob else s
def dputE (M : Int) (s : DS) (p : PKV) : Int := if admB s p = true then keepE M (begS s p) else 1
/-- What is told now, if something is, is the object. -/
def TellsP (M : Int) (s : DS) (x : List Nat × ByteArray) (ob : ByteArray) : Prop := newlyB M s x = true → ObjP s.k s.l (s.L ++ [x]) ob
theorem keepS_dn {M : Int} {s : DS} {x : List Nat × ByteArray} {ob : ByteArray} (h : s.dn = true) : keepS M s x ob = s ∧ keepE M s = 0 := by
  unfold keepS keepE
  rw [if_pos h, if_pos h]; exact ⟨rfl, rfl⟩
theorem keepS_new {M : Int} {s : DS} {x : List Nat × ByteArray} {ob : ByteArray} (h : s.dn = false) (hl : s.L.length < capN M) (hr : (rankC (s.L ++ [x]) : Int) = s.k) : keepS M s x ob = { s with L := s.L ++ [x], dn := true, ob := ob } ∧ keepE M s = 0 ∧ newlyB M s x = true := by
  unfold keepS keepE newlyB
  rw [h, if_neg (by decide), if_pos hl, if_pos hr, if_neg (by decide), if_pos hl, decide_eq_true hl, decide_eq_true hr]; exact ⟨rfl, rfl, rfl⟩
theorem keepS_in {M : Int} {s : DS} {x : List Nat × ByteArray} {ob : ByteArray} (h : s.dn = false) (hl : s.L.length < capN M) (hr : ¬ (rankC (s.L ++ [x]) : Int) = s.k) : keepS M s x ob = { s with L := s.L ++ [x] } ∧ keepE M s = 0 ∧ newlyB M s x = false := by
  unfold keepS keepE newlyB
  rw [h, if_neg (by decide), if_pos hl, if_neg hr, if_neg (by decide), if_pos hl, decide_eq_true hl, decide_eq_false hr]; exact ⟨rfl, rfl, rfl⟩
theorem keepS_full {M : Int} {s : DS} {x : List Nat × ByteArray} {ob : ByteArray} (h : s.dn = false) (hl : ¬ s.L.length < capN M) : keepS M s x ob = { s with ov := true } ∧ keepE M s = 5 ∧ newlyB M s x = false := by
  unfold keepS keepE newlyB
  rw [h, if_neg (by decide), if_neg hl, if_neg (by decide), if_neg hl, decide_eq_false hl]; exact ⟨rfl, rfl, rfl⟩
theorem newly_not {M : Int} {s : DS} {x : List Nat × ByteArray} (h : s.dn = true) : newlyB M s x = false := by
  unfold newlyB
  rw [h]; rfl
theorem keepS_same {M : Int} {s : DS} {x : List Nat × ByteArray} (h : newlyB M s x = false) (a b : ByteArray) : keepS M s x a = keepS M s x b := by
  cases hd : s.dn
  · by_cases hl : s.L.length < capN M
    · by_cases hr : (rankC (s.L ++ [x]) : Int) = s.k
      · rw [(keepS_new (ob := a) hd hl hr).2.2] at h; cases h
      · rw [(keepS_in (ob := a) hd hl hr).1, (keepS_in (ob := b) hd hl hr).1]
    · rw [(keepS_full (x := x) (ob := a) hd hl).1, (keepS_full (x := x) (ob := b) hd hl).1]
  · rw [(keepS_dn hd).1, (keepS_dn hd).1]
/-- What is told is one. -/
theorem TellsP.uniq {M : Int} {s : DS} {x : List Nat × ByteArray} {a b : ByteArray} (ha : TellsP M s x a) (hb : TellsP M s x b) : keepS M s x a = keepS M s x b := by
  cases h : newlyB M s x
  · exact keepS_same h a b
  · rw [(ha h).uniq (hb h)]
/-- What holds of a decoder that has begun. -/
structure DInv (s : DS) : Prop where
  bg : s.bg = true
  sh : ((1 ≤ s.k ∧ s.k ≤ 128) ∧ 1 ≤ s.z ∧ s.z ≤ 64) ∧ 0 ≤ s.l ∧ s.l ≤ s.k * s.z
  fit : ∀ x ∈ s.L, fitB s.k s.z x = true
  dn : s.dn = true ↔ (rankC s.L : Int) = s.k
  ob : s.dn = false → s.ob = ⟨#[]⟩
  obs : s.ob.size ≤ 8192
theorem DInv.lz {s : DS} (h : DInv s) : s.l.toNat ≤ 8192 := by
  have := mul_le (k := s.k) (z := s.z) h.sh.1
  have := h.sh.2
  omega
theorem DInv.keep {M : Int} {s : DS} (h : DInv s) {x : List Nat × ByteArray} (hx : fitB s.k s.z x = true) {ob : ByteArray} (hT : TellsP M s x ob) : DInv (keepS M s x ob) := by
  have hfit : ∀ y ∈ s.L ++ [x], fitB s.k s.z y = true := fun y hy => by
    rcases List.mem_append.1 hy with hy | hy
    · exact h.fit y hy
    · rw [List.mem_singleton.1 hy]; exact hx
  cases hd : s.dn
  · by_cases hl : s.L.length < capN M
    · by_cases hr : (rankC (s.L ++ [x]) : Int) = s.k
      · have hz := (hT (keepS_new (ob := ob) hd hl hr).2.2).size
        rw [(keepS_new hd hl hr).1]
        exact ⟨h.bg, h.sh, hfit, ⟨fun _ => hr, fun _ => rfl⟩, (fun e => by cases e), Nat.le_trans hz h.lz⟩
      · rw [(keepS_in hd hl hr).1]
        exact ⟨h.bg, h.sh, hfit, ⟨(fun e => by have e' : s.dn = true := e; rw [hd] at e'; cases e'), fun e => absurd e hr⟩, h.ob, h.obs⟩
    · rw [(keepS_full hd hl).1]
      exact ⟨h.bg, h.sh, h.fit, h.dn, h.ob, h.obs⟩
  · rw [(keepS_dn hd).1]; exact h
theorem rankC_nil : rankC [] = 0 := rfl
theorem adm_fit {s : DS} {p : PKV} (h : admB s p = true) : okB p = true ∧ fitB (begS s p).k (begS s p).z (p.r.xs, p.r.s) = true ∧ (begS s p).bg = true := by
  unfold admB at h
  rw [Bool.and_eq_true, Bool.or_eq_true] at h
  obtain ⟨h1, h2⟩ := h
  have hf := h1
  unfold okB at hf
  rw [Bool.and_eq_true] at hf
  refine ⟨h1, ?_⟩
  unfold begS
  cases hb : s.bg
  · rw [if_neg (by decide)]; exact ⟨hf.2, rfl⟩
  · rw [if_pos rfl]
    rw [hb] at h2
    rcases h2 with h2 | h2
    · cases h2
    · unfold alikeB at h2
      obtain ⟨_, _, e1, e2⟩ := decide_eq_true_iff.1 h2
      rw [← e1, ← e2]; exact ⟨hf.2, hb⟩
theorem DInv.beg {s : DS} {p : PKV} (h : s.bg = true → DInv s) (hp : okB p = true) : DInv (begS s p) := by
  unfold begS
  cases hb : s.bg
  · rw [if_neg (by decide)]
    unfold okB at hp
    rw [Bool.and_eq_true] at hp
    obtain ⟨a1, a2, a3, a4⟩ := decide_eq_true_iff.1 hp.1
    exact ⟨rfl, ⟨a1, a3⟩, (fun x hx => by cases hx), ⟨(fun e => by cases e), (fun e => by have h1 : (rankC [] : Int) = p.k := e; rw [rankC_nil] at h1; omega)⟩, (fun _ => rfl), Nat.zero_le _⟩
  · rw [if_pos rfl]; exact h hb
/-- A decoder that is done stays as it is. -/
theorem dput_done {M : Int} {s : DS} {p : PKV} {ob : ByteArray} (h : s.bg = true) (hd : s.dn = true) : dput M s p ob = s := by
  unfold dput
  split
  · have e : begS s p = s := by unfold begS; rw [if_pos h]
    rw [e, (keepS_dn hd).1]
  · rfl
end Go.Proofs.YteamniigiogaeaaGreatDoor
namespace Go.Proofs.YteamniigiogaeaaGreatDoor
open Go.RowKit Go.Sort
set_option linter.unusedVariables false
set_option maxRecDepth 4000

/-- A block of cells, none of them frozen. -/
def BkA (T : TypeId) (w : World) (g : Nat) (cs : List Value) : Prop := w.heap[g]? = some (.cells cs.toArray T (0, 0))
theorem bkA_new (T : TypeId) (w : World) (cs : List Value) : BkA T (w.alloc (.cells cs.toArray T)) w.heap.size cs := by
  show (w.heap.push _)[w.heap.size]? = _
  simp
theorem BkA.lt {T : TypeId} {w : World} {g : Nat} {cs : List Value} (h : BkA T w g cs) : g < w.heap.size := (Array.getElem?_eq_some_iff.1 h).1
theorem BkA.belowB {T : TypeId} {w w' : World} {g B : Nat} {cs : List Value} (h : BkA T w g cs) (hb : Below B w w') (hg : g < B) : BkA T w' g cs := (hb.block g hg).trans h
theorem BkA.below {T : TypeId} {w w' : World} {g : Nat} {cs : List Value} (h : BkA T w g cs) (hb : Below w.heap.size w w') : BkA T w' g cs := h.belowB hb h.lt
theorem BkA.at {T : TypeId} {w : World} {g : Nat} {cs : List Value} (h : BkA T w g cs) (i : Nat) {v : Value} (hv : cs[i]? = some v) : w.cell? ⟨g, i, none⟩ = some v := by
  unfold BkA at h
  rw [cell_of_row w g _ _ _ _ h]
  simpa using hv
theorem BkA.frz {T : TypeId} {w : World} {g : Nat} {cs : List Value} (h : BkA T w g cs) (i : Nat) : w.frozen? ⟨g, i, none⟩ = false := by
  unfold BkA at h
  simp [World.frozen?, h]
theorem BkA.set {T : TypeId} {w : World} {g : Nat} {cs : List Value} (h : BkA T w g cs) (i : Nat) (v : Value) : BkA T (w.setCell ⟨g, i, none⟩ v) g (cs.set i v) := by
  have := heap_setCell_same w g i _ _ v h
  rw [List.setIfInBounds_toArray] at this
  exact this
theorem BkA.kept {T : TypeId} {w w' : World} {g : Nat} {cs : List Value} {row : Option Nat} (h : BkA T w g cs) (hg : w.grownBy w' row) (hne : some g ≠ row) : BkA T w' g cs := (hg.block g h.lt hne).trans h
theorem BkA.tu {T : TypeId} {F : Nat → Prop} {w w' : World} {g : Nat} {cs : List Value} (h : BkA T w g cs) (ht : Tu F w w') (hF : ¬ F g) : BkA T w' g cs := (ht.block g h.lt hF).trans h
theorem BkA.ne {T T' : TypeId} {w : World} {g g' : Nat} {cs : List Value} {cur : Array Value} {fz : Nat × Nat} (h : BkA T w g cs) (h' : w.heap[g']? = some (.cells cur T' fz)) (hT : T ≠ T') : g ≠ g' := fun e => by
  subst e
  unfold BkA at h
  rw [h] at h'
  simp only [Option.some.injEq, Obj.cells.injEq] at h'
  exact hT h'.2.1
theorem BkA.neS {T : TypeId} {w : World} {g B : Nat} {cs : List Value} {v : Value} {rs : List RV} (h : BkA T w g cs) (ho : OwnS w B v rs) (hT : T ≠ 29) : v.ownBlock ≠ some g := fun e => by
  obtain ⟨cur, hc⟩ := ho.blk5 e
  exact h.ne hc hT rfl
theorem BkA.neSt {T : TypeId} {w : World} {g gs B : Nat} {cs : List Value} {k z : Int} {m : Nat} {v : Value} {rs : List RV} {ov : Bool} (h : BkA T w g cs) (hs : StAt w gs B k z m v rs ov) (hT : T ≠ 87) : g ≠ gs := h.ne hs.blk hT
/-- A block of another type is none of a store's. -/
theorem BkA.outSt {T : TypeId} {w : World} {g gs B : Nat} {cs : List Value} {k z : Int} {m : Nat} {v : Value} {rs : List RV} {ov : Bool} (h : BkA T w g cs) (hs : StAt w gs B k z m v rs ov) (hT : T ≠ 87) (hR : T ≠ 29) : ¬ stF gs v g := fun hf => by
  rcases hf with hf | hf
  · exact h.neSt hs hT hf
  · exact h.neS hs.own hR hf
theorem tu_set (w : World) (g i : Nat) (u : Value) : Tu (fun j => j = g) w (w.setCell ⟨g, i, none⟩ u) := Tu.of_gb (gb_setCell _ _ _ _) fun j _ e => (Option.some.inj e).symm
/-- A store is as it was where a block of another type is written. -/
theorem StAt.sets {T : TypeId} {w w' : World} {g gs B : Nat} {cs : List Value} {k z : Int} {m : Nat} {v : Value} {rs : List RV} {ov : Bool} (hs : StAt w gs B k z m v rs ov) (h : BkA T w g cs) (ht : Tu (fun j => j = g) w w') (hT : T ≠ 87) (hR : T ≠ 29) (hU : T ≠ 53) : StAt w' gs B k z m v rs ov :=
  ⟨hs.blk.tu ht (fun e => h.neSt hs hT e.symm), hs.lo, hs.own.tu ht (fun j hj e => h.outSt hs hT hR (e ▸ .inr hj)), hs.rows.tu ht (fun j cur hc e => h.ne hc hU e.symm), hs.le, hs.most, hs.short⟩
end Go.Proofs.YteamniigiogaeaaGreatDoor
namespace Go.Proofs.YteamniigiogaeaaGreatDoor
open Go.RowKit Go.Sort
set_option linter.unusedVariables false
set_option maxRecDepth 4000

/-- A store is as it was where none of its blocks turned. -/
theorem StAt.tu {F : Nat → Prop} {w w' : World} {g B : Nat} {k z : Int} {m : Nat} {v : Value} {rs : List RV} {ov : Bool} (h : StAt w g B k z m v rs ov) (ht : Tu F w w') (hs : ∀ j, stF g v j → ¬ F j) (hw : ∀ j cur, w.heap[j]? = some (.cells cur 53 (0, 0)) → ¬ F j) : StAt w' g B k z m v rs ov :=
  ⟨h.blk.tu ht (hs g (.inl rfl)), h.lo, h.own.tu ht (fun j hj => hs j (.inr hj)), h.rows.tu ht hw, h.le, h.most, h.short⟩

/-- The cells of a decoder. -/
def decC (M : Int) (s : DS) (p : Option Addr) : List Value := [.int .i64 M, .int .i64 s.o, .int .i64 s.l, .int .i64 s.k, .int .i64 s.z, .pointer p, .bool s.dn, .string s.ob]
def ptrD (b : Bool) (gs : Nat) : Option Addr := if b = true then some ⟨gs, 0, none⟩ else none
/-- What a decoder is at. -/
def dcF (g gs : Nat) (v : Value) (k : Nat) : Prop := k = g ∨ stF gs v k
/-- A decoder at block g, of at most M rows: its store at gs, its rows rs in v; all of it lies at B or behind. -/
structure DcAt (w : World) (g B : Nat) (M : Int) (s : DS) (gs : Nat) (v : Value) (rs : List RV) : Prop where
  blk : BkA 58 w g (decC M s (ptrD s.bg gs))
  lo : B ≤ g
  begun : s.bg = true → StAt w gs B s.k s.z (capN M) v rs s.ov ∧ DInv s
  fresh : s.bg = false → s = zDS ∧ v = .slice none 0 0 ∧ gs = g
  co : rs.map core = s.L
theorem DcAt.below {w w' : World} {g B : Nat} {M : Int} {s : DS} {gs : Nat} {v : Value} {rs : List RV} (h : DcAt w g B M s gs v rs) (hb : Below w.heap.size w w') : DcAt w' g B M s gs v rs :=
  ⟨h.blk.below hb, h.lo, fun e => ⟨(h.begun e).1.below hb, (h.begun e).2⟩, h.fresh, h.co⟩
theorem DcAt.lt {w : World} {g B : Nat} {M : Int} {s : DS} {gs : Nat} {v : Value} {rs : List RV} (h : DcAt w g B M s gs v rs) : g < w.heap.size := h.blk.lt
theorem DcAt.lob {w : World} {g B : Nat} {M : Int} {s : DS} {gs : Nat} {v : Value} {rs : List RV} (h : DcAt w g B M s gs v rs) : B ≤ w.heap.size := Nat.le_of_lt (Nat.lt_of_le_of_lt h.lo h.lt)
theorem DcAt.mono {w : World} {g B B' : Nat} {M : Int} {s : DS} {gs : Nat} {v : Value} {rs : List RV} (h : DcAt w g B M s gs v rs) (hB : B' ≤ B) : DcAt w g B' M s gs v rs :=
  ⟨h.blk, Nat.le_trans hB h.lo, fun e => ⟨(h.begun e).1.mono hB, (h.begun e).2⟩, h.fresh, h.co⟩
theorem DcAt.low {w : World} {g B : Nat} {M : Int} {s : DS} {gs : Nat} {v : Value} {rs : List RV} (h : DcAt w g B M s gs v rs) : ∀ j, j < B → ¬ dcF g gs v j := fun j hj hf => by
  have hlo := h.lo
  rcases hf with rfl | hf
  · omega
  · cases hb : s.bg
    · obtain ⟨_, rfl, rfl⟩ := h.fresh hb
      rcases hf with rfl | hf
      · omega
      · cases hf
    · exact (h.begun hb).1.low j hj hf
/-- Nothing below B has turned where a decoder behind B has. -/
theorem DcAt.keeps {w w' : World} {g B : Nat} {M : Int} {s : DS} {gs : Nat} {v : Value} {rs : List RV} (h : DcAt w g B M s gs v rs) (ht : Tu (dcF g gs v) w w') : Below B w w' := ht.below h.lob h.low
theorem DcAt.step {w0 w w' : World} {g B : Nat} {M : Int} {s : DS} {gs : Nat} {v : Value} {rs : List RV} (h : DcAt w g B M s gs v rs) (hb : Below B w0 w) (ht : Tu (dcF g gs v) w w') : Below B w0 w' := hb.trans (h.keeps ht)
/-- No row of words lies where a decoder is. -/
theorem DcAt.words {w : World} {g B : Nat} {M : Int} {s : DS} {gs : Nat} {v : Value} {rs : List RV} (h : DcAt w g B M s gs v rs) : ∀ j cur, w.heap[j]? = some (.cells cur 53 (0, 0)) → ¬ dcF g gs v j := fun j cur hc hf => by
  rcases hf with rfl | hf
  · exact h.blk.ne hc (by decide) rfl
  · cases hb : s.bg
    · obtain ⟨_, rfl, rfl⟩ := h.fresh hb
      rcases hf with rfl | hf
      · exact h.blk.ne hc (by decide) rfl
      · cases hf
    · exact (h.begun hb).1.words j cur hc hf
/-- A block of another type is none of a decoder's. -/
theorem DcAt.out {w : World} {g B : Nat} {M : Int} {s : DS} {gs : Nat} {v : Value} {rs : List RV} (h : DcAt w g B M s gs v rs) {T : TypeId} {p : Nat} {cur : Array Value} {fz : Nat × Nat} (hp : w.heap[p]? = some (.cells cur T fz)) (h1 : 58 ≠ T) (h2 : 87 ≠ T) (h3 : 29 ≠ T) : ¬ dcF g gs v p := fun hf => by
  rcases hf with rfl | hf
  · exact h.blk.ne hp h1 rfl
  · cases hb : s.bg
    · obtain ⟨_, rfl, rfl⟩ := h.fresh hb
      rcases hf with rfl | hf
      · exact h.blk.ne hp h1 rfl
      · cases hf
    · have hs := (h.begun hb).1
      rcases hf with rfl | hf
      · have := hs.blk
        unfold Bk5 at this
        rw [this] at hp
        simp only [Option.some.injEq, Obj.cells.injEq] at hp
        exact h2 hp.2.1
      · obtain ⟨cur2, hc2⟩ := hs.own.blk5 hf
        rw [hc2] at hp
        simp only [Option.some.injEq, Obj.cells.injEq] at hp
        exact h3 hp.2.1
/-- Where a decoder's blocks have gone: where they were, or to new memory. -/
def Mv (w : World) (gs : Nat) (v : Value) (gs' : Nat) (v' : Value) : Prop := (gs' = gs ∨ w.heap.size ≤ gs') ∧ (v'.ownBlock = v.ownBlock ∨ ∀ j, v'.ownBlock = some j → w.heap.size ≤ j)
theorem Mv.refl (w : World) (gs : Nat) (v : Value) : Mv w gs v gs v := ⟨.inl rfl, .inl rfl⟩
theorem Mv.at {w : World} {gs gs' : Nat} {v v' : Value} (h : Mv w gs v gs' v') (g j : Nat) (hj : j < w.heap.size) (hf : dcF g gs' v' j) : dcF g gs v j := by
  rcases hf with rfl | rfl | hf
  · exact .inl rfl
  · rcases h.1 with e | e
    · exact .inr (.inl e)
    · omega
  · rcases h.2 with e | e
    · exact .inr (.inr (e ▸ hf))
    · have := e j hf; omega
theorem Mv.trans {w w1 : World} {gs gs1 gs2 : Nat} {v v1 v2 : Value} (h : Mv w gs v gs1 v1) (k : Mv w1 gs1 v1 gs2 v2) (hs : w.heap.size ≤ w1.heap.size) : Mv w gs v gs2 v2 := by
  refine ⟨?_, ?_⟩
  · rcases k.1 with e | e
    · rw [e]; exact h.1
    · exact .inr (by omega)
  · rcases k.2 with e | e
    · rw [e]; exact h.2
    · exact .inr fun j hj => Nat.le_trans hs (e j hj)
theorem Mv.new {w w1 : World} {gs gs1 : Nat} {v v1 : Value} (h : Mv w1 gs v gs1 v1) (hs : w.heap.size ≤ w1.heap.size) : Mv w gs v gs1 v1 := (Mv.refl w gs v).trans h hs
theorem tu_trans {w w1 w2 : World} {g gs gs1 : Nat} {v v1 : Value} (h : Tu (dcF g gs v) w w1) (k : Tu (dcF g gs1 v1) w1 w2) (hm : Mv w gs v gs1 v1) : Tu (dcF g gs v) w w2 := h.trans k fun j hj hf => hm.at g j hj hf
/-- A new decoder. -/
theorem dc_new (w : World) (M : Int) : DcAt (w.alloc (.cells #[.int .i64 M, .int .i64 0, .int .i64 0, .int .i64 0, .int .i64 0, .pointer none, .bool false, .string ⟨#[]⟩] 58)) w.heap.size w.heap.size M zDS w.heap.size (.slice none 0 0) [] :=
  ⟨bkA_new 58 w (decC M zDS none), Nat.le_refl _, (fun e => by cases e), (fun _ => ⟨rfl, rfl, rfl⟩), rfl⟩
/-- The cells of a decoder that has not begun, and of one that has. -/
theorem DcAt.cells {w : World} {g B : Nat} {M : Int} {s : DS} {gs : Nat} {v : Value} {rs : List RV} (h : DcAt w g B M s gs v rs) :
    w.cell? ⟨g, 0, none⟩ = some (.int .i64 M) ∧ w.cell? ⟨g, 1, none⟩ = some (.int .i64 s.o) ∧ w.cell? ⟨g, 2, none⟩ = some (.int .i64 s.l) ∧ w.cell? ⟨g, 3, none⟩ = some (.int .i64 s.k) ∧ w.cell? ⟨g, 4, none⟩ = some (.int .i64 s.z) ∧
      w.cell? ⟨g, 5, none⟩ = some (.pointer (ptrD s.bg gs)) ∧ w.cell? ⟨g, 6, none⟩ = some (.bool s.dn) ∧ w.cell? ⟨g, 7, none⟩ = some (.string s.ob) :=
  ⟨h.blk.at 0 rfl, h.blk.at 1 rfl, h.blk.at 2 rfl, h.blk.at 3 rfl, h.blk.at 4 rfl, h.blk.at 5 rfl, h.blk.at 6 rfl, h.blk.at 7 rfl⟩
end Go.Proofs.YteamniigiogaeaaGreatDoor
