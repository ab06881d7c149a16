/-
  Rows of words as numbers, and what echelon's calls and the reference's tell of rows, on plain lists: the two agree on a basis. Of no program; words below 2^64.
  A slice of words cut at its end. No condition.
-/
import Derived.Test.YtbcgiodgobmkaaaGreatDoorU13
import Derived.Test.YtbcgiodgobmkaaaGreatDoorU3
import Derived.Test.YtbcgiodgobmkaaaGreatDoorU1
namespace Go.Proofs.YtbcgiodgobmkaaaGreatDoor
open Go.RowKit
set_option linter.unusedVariables false
set_option linter.unusedSimpArgs false
set_option maxRecDepth 4000

/-- The bits of a row as one number. -/
def val : List Nat → Nat
  | [] => 0
  | x :: r => 2 ^ 64 * val r + x
theorem smalls.tail {x : Nat} {r : List Nat} (h : smalls (x :: r)) : smalls r := fun y hy => h y (List.mem_cons_of_mem _ hy)
theorem smalls.nil : smalls [] := fun _ h => by cases h
theorem val_bit : ∀ {xs : List Nat}, smalls xs → ∀ i, (val xs).testBit i = getB xs i
  | [], _, i => by simp [val, getB]
  | x :: r, h, i => by
    have hx : x < 2 ^ 64 := h x List.mem_cons_self
    rw [val, Nat.testBit_two_pow_mul_add _ hx]
    unfold getB
    by_cases hi : i < 64
    · rw [if_pos hi, show i / 64 = 0 by omega, show i % 64 = i by omega]; rfl
    · rw [if_neg hi, val_bit h.tail, getB, show i / 64 = (i - 64) / 64 + 1 by omega, show i % 64 = (i - 64) % 64 by omega]; rfl
theorem bit_xorL (a b : List Nat) (i : Nat) : getB (xorL a b) i = (getB a i ^^ getB b i) := by
  unfold getB
  rw [xorL_getD, Nat.testBit_xor]
theorem val_xor {a b : List Nat} (ha : smalls a) (hb : smalls b) : val (xorL a b) = val a ^^^ val b := by
  apply Nat.eq_of_testBit_eq
  intro i
  rw [val_bit (xorL_small ha hb), bit_xorL, Nat.testBit_xor, val_bit ha, val_bit hb]
theorem val_zero {xs : List Nat} : val xs = 0 ↔ ∀ x ∈ xs, x = 0 := by
  induction xs with
  | nil => simp [val]
  | cons x r ih =>
    rw [val]
    constructor
    · intro h y hy
      rcases List.mem_cons.1 hy with e | hy
      · omega
      · exact ih.1 (by omega) y hy
    · intro h
      have h0 := h x List.mem_cons_self
      have h1 := ih.2 fun y hy => h y (List.mem_cons_of_mem _ hy)
      omega
theorem firstI_look : ∀ (xs : List Nat), 0 ≤ firstI xs → ∃ k, k < xs.length ∧ (∀ j, j < k → xs.getD j 0 = 0) ∧ xs.getD k 0 ≠ 0 ∧ firstI xs = (k : Int) * 64 + Lib.ctz 64 (xs.getD k 0)
  | [], h => by simp [firstI] at h
  | x :: r, h => by
    by_cases hx : x = 0
    · have hr : 0 ≤ firstI r := by
        simp only [firstI, hx] at h
        split at h
        · omega
        · split at h
          · omega
          · omega
      obtain ⟨k, hk, hz, hne, he⟩ := firstI_look r hr
      have hz' : ∀ j, j < k + 1 → (x :: r).getD j 0 = 0 := by
        intro j hj
        cases j with
        | zero => simpa using hx
        | succ j => simpa using hz j (by omega)
      have hk' : k + 1 < (x :: r).length := by simpa using hk
      have hne' : (x :: r).getD (k + 1) 0 ≠ 0 := by simpa using hne
      exact ⟨k + 1, hk', hz', hne', firstI_at _ _ hk' hz' hne'⟩
    · have hk' : 0 < (x :: r).length := by simp
      have hne' : (x :: r).getD 0 0 ≠ 0 := by simpa using hx
      exact ⟨0, hk', fun j hj => by omega, hne', firstI_at _ _ hk' (fun j hj => by omega) hne'⟩
/-- The first bit of a row as the number's lowest one. -/
theorem firstI_val {xs : List Nat} (hs : smalls xs) : firstI xs = if val xs = 0 then -1 else (Ech.low (val xs) : Int) := by
  rcases firstI_cases xs with h | h
  · have h1 := val_zero.2 ((firstI_nonneg_iff xs).1 (by omega))
    rw [h, if_pos h1]
  · obtain ⟨k, hk, hz, hne, he⟩ := firstI_look xs h
    have hx := hs.get k
    have hc := ctz_lt (xs.getD k 0) hne hx
    have hb := ctz_bit (xs.getD k 0) hne hx
    have hl := fun j hj => ctz_low (xs.getD k 0) j hne hx hj
    generalize Lib.ctz 64 (xs.getD k 0) = t at *
    have h1 : (val xs).testBit (64 * k + t) = true := by rw [val_bit hs, getB_at xs k t hc]; exact hb
    have h2 : ∀ j, j < 64 * k + t → (val xs).testBit j = false := fun i hi => by
      rw [val_bit hs]
      unfold getB
      by_cases e : i / 64 < k
      · rw [hz _ e]; simp
      · rw [show i / 64 = k by omega]; exact hl _ (by omega)
    rw [if_neg (Ech.ne_of_bit h1), Ech.low_unique h1 h2, he]
    omega
theorem firstI_le {xs : List Nat} (hs : smalls xs) : firstI xs < 64 * (xs.length : Int) ∧ -1 ≤ firstI xs := by
  rcases firstI_cases xs with h | h
  · omega
  · obtain ⟨k, hk, hz, hne, he⟩ := firstI_look xs h
    have hc := ctz_lt (xs.getD k 0) hne (hs.get k)
    omega
theorem firstI_neg {xs : List Nat} (hs : smalls xs) : firstI xs < 0 ↔ val xs = 0 := by
  rw [firstI_val hs]
  split
  · rename_i h; simp [h]
  · rename_i h
    constructor
    · intro k; omega
    · intro k; exact absurd k h
theorem getI_val {xs ys : List Nat} (hx : smalls xs) (hy : smalls ys) : getI xs (firstI ys) = (decide (val ys ≠ 0) && (val xs).testBit (Ech.low (val ys))) := by
  rw [firstI_val hy]
  split
  · rename_i h; simp [h, getI]
  · rename_i h
    rw [getI_nat, val_bit hx]
    simp [h]

/-- A row with what b's first bit takes. -/
def stepL (r b : List Nat) : List Nat := if getI r (firstI b) = true then xorL r b else r
def reduceL (B : List (List Nat)) (v : List Nat) : List Nat := B.foldl stepL v
theorem step_small {r b : List Nat} (hr : smalls r) (hb : smalls b) : smalls (stepL r b) := by
  unfold stepL
  split
  · exact xorL_small hr hb
  · exact hr
theorem step_val {r b : List Nat} (hr : smalls r) (hb : smalls b) : val (stepL r b) = if val b ≠ 0 ∧ (val r).testBit (Ech.low (val b)) = true then val r ^^^ val b else val r := by
  unfold stepL
  rw [getI_val hr hb]
  by_cases h1 : val b = 0
  · simp [h1]
  · by_cases h2 : (val r).testBit (Ech.low (val b)) = true
    · simp [h1, h2, val_xor hr hb]
    · simp [h1, h2]
theorem step_length (r b : List Nat) (M : Nat) (hr : r.length ≤ M) (hb : b.length ≤ M) : (stepL r b).length ≤ M := by
  unfold stepL
  split
  · rw [xorL_length]; omega
  · exact hr
/-- Rows whose words are words, and which have at most M of them. -/
def Fit (M : Nat) (B : List (List Nat)) : Prop := ∀ b ∈ B, smalls b ∧ b.length ≤ M
theorem Fit.nil (M : Nat) : Fit M [] := fun _ h => by cases h
theorem Fit.tail {M : Nat} {b : List Nat} {B : List (List Nat)} (h : Fit M (b :: B)) : Fit M B := fun a ha => h a (List.mem_cons_of_mem _ ha)
theorem reduce_small {M : Nat} : ∀ {B : List (List Nat)}, Fit M B → ∀ {v : List Nat}, smalls v → v.length ≤ M → smalls (reduceL B v) ∧ (reduceL B v).length ≤ M
  | [], _, v, hv, hl => ⟨hv, hl⟩
  | b :: B, h, v, hv, hl => by
    have hb := h b List.mem_cons_self
    exact reduce_small h.tail (step_small hv hb.1) (step_length v b M hl hb.2)
theorem reduce_val {M : Nat} : ∀ {B : List (List Nat)}, Fit M B → ∀ {v : List Nat}, smalls v → val (reduceL B v) = Ech.red (B.map val) (val v)
  | [], _, v, hv => rfl
  | b :: B, h, v, hv => by
    have hb := h b List.mem_cons_self
    show val (reduceL B (stepL v b)) = Ech.red (B.map val) _
    rw [reduce_val h.tail (step_small hv hb.1), step_val hv hb.1]
theorem reduce_take {B : List (List Nat)} {v : List Nat} {k : Nat} (h : k < B.length) : reduceL (B.take (k + 1)) v = stepL (reduceL (B.take k) v) (B.getD k []) := by
  unfold reduceL
  rw [List.take_succ_eq_append_getElem h, List.foldl_append]
  simp [List.getD_eq_getElem?_getD, List.getElem?_eq_getElem h]
theorem reduce_all {B : List (List Nat)} {v : List Nat} {k : Nat} (h : B.length ≤ k) : reduceL (B.take k) v = reduceL B v := by rw [List.take_of_length_le h]

/-- The place of the first row whose first bit is greater than f; how many rows, if there is none. -/
def idxL (f : Int) : List (List Nat) → Nat
  | [] => 0
  | b :: B => if f < firstI b then 0 else idxL f B + 1
/-- r at place p. -/
def insAt (r : List Nat) (p : Nat) (C : List (List Nat)) : List (List Nat) := C.take p ++ r :: C.drop p
theorem insAt_length (r : List Nat) (p : Nat) (C : List (List Nat)) (h : p ≤ C.length) : (insAt r p C).length = C.length + 1 := by
  simp [insAt]; omega
theorem insAt_mem {r : List Nat} {p : Nat} {C : List (List Nat)} {x : List Nat} : x ∈ insAt r p C ↔ x = r ∨ x ∈ C := by
  unfold insAt
  rw [List.mem_append, List.mem_cons]
  constructor
  · rintro (h | h | h)
    · exact .inr (List.mem_of_mem_take h)
    · exact .inl h
    · exact .inr (List.mem_of_mem_drop h)
  · rintro (h | h)
    · exact .inr (.inl h)
    · rw [← List.take_append_drop p C, List.mem_append] at h
      rcases h with h | h
      · exact .inl h
      · exact .inr (.inr h)
/-- Add of echelon, and the reference's. -/
def insertL (B : List (List Nat)) (v : List Nat) : List (List Nat) :=
  if firstI (reduceL B v) < 0 then B else insAt (reduceL B v) (idxL (firstI (reduceL B v)) (B.map fun b => stepL b (reduceL B v))) (B.map fun b => stepL b (reduceL B v))
theorem Fit.map {M : Nat} {B : List (List Nat)} (h : Fit M B) {r : List Nat} (hr : smalls r) (hl : r.length ≤ M) : Fit M (B.map fun b => stepL b r) := by
  intro x hx
  obtain ⟨b, hb, rfl⟩ := List.mem_map.1 hx
  exact ⟨step_small (h b hb).1 hr, step_length b r M (h b hb).2 hl⟩
theorem Fit.insert {M : Nat} {B : List (List Nat)} (h : Fit M B) {v : List Nat} (hv : smalls v) (hl : v.length ≤ M) : Fit M (insertL B v) := by
  obtain ⟨h1, h2⟩ := reduce_small h hv hl
  unfold insertL
  split
  · exact h
  · intro x hx
    rcases insAt_mem.1 hx with e | hx
    · rw [e]; exact ⟨h1, h2⟩
    · exact h.map h1 h2 x hx

theorem Fit.take {M : Nat} {B : List (List Nat)} (h : Fit M B) (k : Nat) : Fit M (B.take k) := fun b hb => h b (List.mem_of_mem_take hb)

theorem Fit.getD {M : Nat} {B : List (List Nat)} (h : Fit M B) (i : Nat) : smalls (B.getD i []) ∧ (B.getD i []).length ≤ M := by
  rw [List.getD_eq_getElem?_getD]
  cases hx : B[i]? with
  | none => exact ⟨smalls.nil, Nat.zero_le _⟩
  | some x => exact h x (List.mem_of_getElem? hx)
end Go.Proofs.YtbcgiodgobmkaaaGreatDoor
namespace Go.Proofs.YtbcgiodgobmkaaaGreatDoor
open Go.RowKit
set_option linter.unusedVariables false
set_option linter.unusedSimpArgs false
set_option maxRecDepth 4000

theorem elem_u64s : Tryz.prog.underlying 25 = some (.slice (Tryz.prog.elem 25)) := by kernel_rfl
theorem elem_u64s' : Tryz.prog.elem 25 = 59 := by kernel_rfl
theorem uslice_hi (a : Option Addr) (n c q : Nat) (hc : q ≤ c) (w : World) :
    (Instr.sliceAt 25 (.slice a n c) none (some (.int .i64 (q : Int))) none).run Tryz.prog w = .ok (.slice a q c) w := by
  have hz : ∀ w : World, (sizeOf 59).run Tryz.prog w = .ok 1 w := fun w => by kernel_rfl
  rw [run_sliceAt_slice _ _ _ _ _ _ elem_u64s, run_slice_h _ _ _ _ _ elem_u64s _ _ (by omega) (by omega), elem_u64s', hz]
  cases a <;> simp [Result.andThen, sliced, Addr.add]
theorem RowAt.take {w : World} {a : Option Addr} {n : Nat} {xs : List Nat} (h : RowAt w a n xs) {k : Nat} (hk : k ≤ n) : RowAt w a k (xs.take k) := by
  refine ⟨by rw [List.length_take, h.1]; omega, fun x hx => h.2.1 x (List.mem_of_mem_take hx), ?_⟩
  rcases h.2.2 with h0 | ⟨b, off, rfl, hc⟩
  · left; omega
  · refine .inr ⟨b, off, rfl, fun i hi => ?_⟩
    rw [hc i (by omega), List.getD_eq_getElem?_getD, List.getD_eq_getElem?_getD, List.getElem?_take_of_lt hi]
end Go.Proofs.YtbcgiodgobmkaaaGreatDoor
