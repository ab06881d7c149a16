/-
  Rows of words as numbers, and what echelon's calls and the reference's tell of rows, on plain lists: the two agree on a basis. Of no program; words below 2^64.
  A slice of words cut at its end. No condition.
-/
import Derived.Test.YtbcgiodgobmkaaaGreatDoorU9
import Derived.Test.YtbcgiodgobmkaaaGreatDoorU1
import Derived.Test.YtbcgiodgobmkaaaGreatDoorU0
namespace Go.Proofs.YtbcgiodgobmkaaaGreatDoor
open Go.RowKit
set_option linter.unusedVariables false
set_option linter.unusedSimpArgs false
set_option maxRecDepth 4000

/-- The bits of a row as one number. -/
def val : List Nat → Nat
  | [] => 0
  | x :: r => 2 ^ 64 * val r + x
theorem smalls.tail {x : Nat} {r : List Nat} (h : smalls (x :: r)) : smalls r := fun y hy => h y (List.mem_cons_of_mem _ hy)
theorem smalls.nil : smalls [] := fun _ h => by cases h
theorem val_bit : ∀ {xs : List Nat}, smalls xs → ∀ i, (val xs).testBit i = getB xs i
  | [], _, i => by simp [val, getB]
  | x :: r, h, i => by
    have hx : x < 2 ^ 64 := h x List.mem_cons_self
    rw [val, Nat.testBit_two_pow_mul_add _ hx]
    unfold getB
    by_cases hi : i < 64
    · rw [if_pos hi, show i / 64 = 0 by omega, show i % 64 = i by omega]; rfl
    · rw [if_neg hi, val_bit h.tail, getB, show i / 64 = (i - 64) / 64 + 1 by omega, show i % 64 = (i - 64) % 64 by omega]; rfl
theorem bit_xorL (a b : List Nat) (i : Nat) : getB (xorL a b) i = (getB a i ^^ getB b i) := by
  unfold getB
  rw [xorL_getD, Nat.testBit_xor]
theorem val_xor {a b : List Nat} (ha : smalls a) (hb : smalls b) : val (xorL a b) = val a ^^^ val b := by
  apply Nat.eq_of_testBit_eq
  intro i
  rw [val_bit (xorL_small ha hb), bit_xorL, Nat.testBit_xor, val_bit ha, val_bit hb]
theorem val_zero {xs : List Nat} : val xs = 0 ↔ ∀ x ∈ xs, x = 0 := by
  induction xs with
  | nil => simp [val]
  | cons x r ih =>
    rw [val]
    constructor
    · intro h y hy
      rcases List.mem_cons.1 hy with e | hy
      · omega
      · exact ih.1 (by omega) y hy
    · intro h
      have h0 := h x List.mem_cons_self
      have h1 := ih.2 fun y hy => h y (List.mem_cons_of_mem _ hy)
      omega
theorem firstI_look : ∀ (xs : List Nat), 0 ≤ firstI xs → ∃ k, k < xs.length ∧ (∀ j, j < k → xs.getD j 0 = 0) ∧ xs.getD k 0 ≠ 0 ∧ firstI xs = (k : Int) * 64 + Lib.ctz 64 (xs.getD k 0)
  | [], h => by simp [firstI] at h
  | x :: r, h => by
    by_cases hx : x = 0
    · have hr : 0 ≤ firstI r := by
        simp only [firstI, hx] at h
        split at h
        · omega
        · split at h
          · omega
          · omega
      obtain ⟨k, hk, hz, hne, he⟩ := firstI_look r hr
      have hz' : ∀ j, j < k + 1 → (x :: r).getD j 0 = 0 := by
        intro j hj
        cases j with
        | zero => simpa using hx
        | succ j => simpa using hz j (by omega)
      have hk' : k + 1 < (x :: r).length := by simpa using hk
      have hne' : (x :: r).getD (k + 1) 0 ≠ 0 := by simpa using hne
      exact ⟨k + 1, hk', hz', hne', firstI_at _ _ hk' hz' hne'⟩
    · have hk' : 0 < (x :: r).length := by simp
      have hne' : (x :: r).getD 0 0 ≠ 0 := by simpa using hx
      exact ⟨0, hk', fun j hj => by omega, hne', firstI_at _ _ hk' (fun j hj => by omega) hne'⟩
/-- The first bit of a row as the number's lowest one. -/
theorem firstI_val {xs : List Nat} (hs : smalls xs) : firstI xs = if val xs = 0 then -1 else (Ech.low (val xs) : Int) := by
  rcases firstI_cases xs with h | h
  · have h1 := val_zero.2 ((firstI_nonneg_iff xs).1 (by omega))
    rw [h, if_pos h1]
  · obtain ⟨k, hk, hz, hne, he⟩ := firstI_look xs h
    have hx := hs.get k
    have hc := ctz_lt (xs.getD k 0) hne hx
    have hb := ctz_bit (xs.getD k 0) hne hx
    have hl := fun j hj => ctz_low (xs.getD k 0) j hne hx hj
    generalize Lib.ctz 64 (xs.getD k 0) = t at *
    have h1 : (val xs).testBit (64 * k + t) = true := by rw [val_bit hs, getB_at xs k t hc]; exact hb
    have h2 : ∀ j, j < 64 * k + t → (val xs).testBit j = false := fun i hi => by
      rw [val_bit hs]
      unfold getB
      by_cases e : i / 64 < k
      · rw [hz _ e]; simp
      · rw [show i / 64 = k by omega]; exact hl _ (by omega)
    rw [if_neg (Ech.ne_of_bit h1), Ech.low_unique h1 h2, he]
    omega
theorem firstI_le {xs : List Nat} (hs : smalls xs) : firstI xs < 64 * (xs.length : Int) ∧ -1 ≤ firstI xs := by
  rcases firstI_cases xs with h | h
  · omega
  · obtain ⟨k, hk, hz, hne, he⟩ := firstI_look xs h
    have hc := ctz_lt (xs.getD k 0) hne (hs.get k)
    omega
theorem firstI_neg {xs : List Nat} (hs : smalls xs) : firstI xs < 0 ↔ val xs = 0 := by
  rw [firstI_val hs]
  split
  · rename_i h; simp [h]
  · rename_i h
    constructor
    · intro k; omega
    · intro k; exact absurd k h
theorem getI_val {xs ys : List Nat} (hx : smalls xs) (hy : smalls ys) : getI xs (firstI ys) = (decide (val ys ≠ 0) && (val xs).testBit (Ech.low (val ys))) := by
  rw [firstI_val hy]
  split
  · rename_i h; simp [h, getI]
  · rename_i h
    rw [getI_nat, val_bit hx]
    simp [h]
theorem getI_neg (xs : List Nat) (i : Int) (h : i < 0) : getI xs i = false := by unfold getI; rw [if_pos h]

/-- A row with what b's first bit takes. -/
def stepL (r b : List Nat) : List Nat := if getI r (firstI b) = true then xorL r b else r
def reduceL (B : List (List Nat)) (v : List Nat) : List Nat := B.foldl stepL v
theorem step_small {r b : List Nat} (hr : smalls r) (hb : smalls b) : smalls (stepL r b) := by
  unfold stepL
  split
  · exact xorL_small hr hb
  · exact hr
theorem step_val {r b : List Nat} (hr : smalls r) (hb : smalls b) : val (stepL r b) = if val b ≠ 0 ∧ (val r).testBit (Ech.low (val b)) = true then val r ^^^ val b else val r := by
  unfold stepL
  rw [getI_val hr hb]
  by_cases h1 : val b = 0
  · simp [h1]
  · by_cases h2 : (val r).testBit (Ech.low (val b)) = true
    · simp [h1, h2, val_xor hr hb]
    · simp [h1, h2]
theorem step_length (r b : List Nat) (M : Nat) (hr : r.length ≤ M) (hb : b.length ≤ M) : (stepL r b).length ≤ M := by
  unfold stepL
  split
  · rw [xorL_length]; omega
  · exact hr
/-- Rows whose words are words, and which have at most M of them. -/
def Fit (M : Nat) (B : List (List Nat)) : Prop := ∀ b ∈ B, smalls b ∧ b.length ≤ M
theorem Fit.nil (M : Nat) : Fit M [] := fun _ h => by cases h
theorem Fit.tail {M : Nat} {b : List Nat} {B : List (List Nat)} (h : Fit M (b :: B)) : Fit M B := fun a ha => h a (List.mem_cons_of_mem _ ha)
theorem reduce_small {M : Nat} : ∀ {B : List (List Nat)}, Fit M B → ∀ {v : List Nat}, smalls v → v.length ≤ M → smalls (reduceL B v) ∧ (reduceL B v).length ≤ M
  | [], _, v, hv, hl => ⟨hv, hl⟩
  | b :: B, h, v, hv, hl => by
    have hb := h b List.mem_cons_self
    exact reduce_small h.tail (step_small hv hb.1) (step_length v b M hl hb.2)
theorem reduce_val {M : Nat} : ∀ {B : List (List Nat)}, Fit M B → ∀ {v : List Nat}, smalls v → val (reduceL B v) = Ech.red (B.map val) (val v)
  | [], _, v, hv => rfl
  | b :: B, h, v, hv => by
    have hb := h b List.mem_cons_self
    show val (reduceL B (stepL v b)) = Ech.red (B.map val) _
    rw [reduce_val h.tail (step_small hv hb.1), step_val hv hb.1]
theorem reduce_take {B : List (List Nat)} {v : List Nat} {k : Nat} (h : k < B.length) : reduceL (B.take (k + 1)) v = stepL (reduceL (B.take k) v) (B.getD k []) := by
  unfold reduceL
  rw [List.take_succ_eq_append_getElem h, List.foldl_append]
  simp [List.getD_eq_getElem?_getD, List.getElem?_eq_getElem h]
theorem reduce_all {B : List (List Nat)} {v : List Nat} {k : Nat} (h : B.length ≤ k) : reduceL (B.take k) v = reduceL B v := by rw [List.take_of_length_le h]

/-- The place of the first row whose first bit is greater than f; how many rows, if there is none. -/
def idxL (f : Int) : List (List Nat) → Nat
  | [] => 0
  | b :: B => if f < firstI b then 0 else idxL f B + 1
theorem idxL_le (f : Int) : ∀ B, idxL f B ≤ B.length
  | [] => Nat.le_refl _
  | b :: B => by
    simp only [idxL]
    split
    · exact Nat.zero_le _
    · have := idxL_le f B; simp only [List.length_cons]; omega
theorem idxL_low (f : Int) : ∀ (B : List (List Nat)) (j : Nat), j < idxL f B → ¬ f < firstI (B.getD j [])
  | [], j, h => by simp [idxL] at h
  | b :: B, j, h => by
    simp only [idxL] at h
    split at h
    · omega
    · rename_i hb
      cases j with
      | zero => simpa using hb
      | succ j => simpa using idxL_low f B j (by omega)
theorem idxL_at (f : Int) : ∀ (B : List (List Nat)), idxL f B < B.length → f < firstI (B.getD (idxL f B) [])
  | [], h => by simp [idxL] at h
  | b :: B, h => by
    simp only [idxL] at h ⊢
    split
    · rename_i hb; simpa using hb
    · rename_i hb
      rw [if_neg hb] at h
      simpa using idxL_at f B (by simpa using h)
/-- r at place p. -/
def insAt (r : List Nat) (p : Nat) (C : List (List Nat)) : List (List Nat) := C.take p ++ r :: C.drop p
theorem insAt_length (r : List Nat) (p : Nat) (C : List (List Nat)) (h : p ≤ C.length) : (insAt r p C).length = C.length + 1 := by
  simp [insAt]; omega
theorem insAt_mem {r : List Nat} {p : Nat} {C : List (List Nat)} {x : List Nat} : x ∈ insAt r p C ↔ x = r ∨ x ∈ C := by
  unfold insAt
  rw [List.mem_append, List.mem_cons]
  constructor
  · rintro (h | h | h)
    · exact .inr (List.mem_of_mem_take h)
    · exact .inl h
    · exact .inr (List.mem_of_mem_drop h)
  · rintro (h | h)
    · exact .inr (.inl h)
    · rw [← List.take_append_drop p C, List.mem_append] at h
      rcases h with h | h
      · exact .inl h
      · exact .inr (.inr h)
theorem lt_first {a b : List Nat} (ha : smalls a) (hb : smalls b) (h : val a ≠ 0) : firstI a < firstI b ↔ Ech.low (val a) < Ech.low (val b) := by
  rw [firstI_val ha, firstI_val hb, if_neg h]
  split
  · rename_i h0
    rw [h0]
    have : Ech.low 0 = 0 := rfl
    omega
  · omega
theorem put_val {M : Nat} {r : List Nat} (hr : smalls r) (h0 : val r ≠ 0) : ∀ {C : List (List Nat)}, Fit M C → (insAt r (idxL (firstI r) C) C).map val = Ech.put (val r) (C.map val)
  | [], _ => rfl
  | c :: C, h => by
    have hc := h c List.mem_cons_self
    have hl := lt_first hr hc.1 h0
    simp only [idxL, List.map_cons, Ech.put]
    by_cases hlt : firstI r < firstI c
    · rw [if_pos hlt, if_pos (hl.1 hlt)]; rfl
    · rw [if_neg hlt, if_neg (fun k => hlt (hl.2 k)), ← put_val hr h0 h.tail]; rfl
/-- Add of echelon, and the reference's. -/
def insertL (B : List (List Nat)) (v : List Nat) : List (List Nat) :=
  if firstI (reduceL B v) < 0 then B else insAt (reduceL B v) (idxL (firstI (reduceL B v)) (B.map fun b => stepL b (reduceL B v))) (B.map fun b => stepL b (reduceL B v))
def raddL (B : List (List Nat)) (v : List Nat) : List (List Nat) :=
  if firstI (reduceL B v) < 0 then B else insAt (reduceL B v) (idxL (firstI (reduceL B v)) B) (B.map fun b => stepL b (reduceL B v))
theorem Fit.map {M : Nat} {B : List (List Nat)} (h : Fit M B) {r : List Nat} (hr : smalls r) (hl : r.length ≤ M) : Fit M (B.map fun b => stepL b r) := by
  intro x hx
  obtain ⟨b, hb, rfl⟩ := List.mem_map.1 hx
  exact ⟨step_small (h b hb).1 hr, step_length b r M (h b hb).2 hl⟩
theorem Fit.insert {M : Nat} {B : List (List Nat)} (h : Fit M B) {v : List Nat} (hv : smalls v) (hl : v.length ≤ M) : Fit M (insertL B v) := by
  obtain ⟨h1, h2⟩ := reduce_small h hv hl
  unfold insertL
  split
  · exact h
  · intro x hx
    rcases insAt_mem.1 hx with e | hx
    · rw [e]; exact ⟨h1, h2⟩
    · exact h.map h1 h2 x hx
theorem insert_length (B : List (List Nat)) (v : List Nat) : (insertL B v).length ≤ B.length + 1 := by
  unfold insertL
  split
  · omega
  · rw [insAt_length _ _ _ (idxL_le _ _), List.length_map]; exact Nat.le_refl _
theorem map_val {M : Nat} {B : List (List Nat)} (h : Fit M B) {r : List Nat} (hr : smalls r) (h0 : val r ≠ 0) : (B.map fun b => stepL b r).map val = (B.map val).map (Ech.upd (val r)) := by
  rw [List.map_map, List.map_map]
  apply List.map_congr_left
  intro b hb
  show val (stepL b r) = Ech.upd (val r) (val b)
  rw [step_val (h b hb).1 hr]
  unfold Ech.upd
  by_cases hbit : (val b).testBit (Ech.low (val r)) = true
  · rw [if_pos ⟨h0, hbit⟩, if_pos hbit]
  · rw [if_neg (fun k => hbit k.2), if_neg hbit]
theorem insert_val {M : Nat} {B : List (List Nat)} (h : Fit M B) {v : List Nat} (hv : smalls v) (hl : v.length ≤ M) : (insertL B v).map val = Ech.ins (B.map val) (val v) := by
  obtain ⟨h1, h2⟩ := reduce_small h hv hl
  unfold insertL Ech.ins
  rw [← reduce_val h hv]
  by_cases h0 : val (reduceL B v) = 0
  · rw [if_pos ((firstI_neg h1).2 h0), if_pos h0]
  · rw [if_neg (fun k => h0 ((firstI_neg h1).1 k)), if_neg h0, put_val h1 h0 (h.map h1 h2), map_val h h1 h0]
theorem idxL_congr (f : Int) : ∀ {B C : List (List Nat)}, B.map firstI = C.map firstI → idxL f B = idxL f C
  | [], [], _ => rfl
  | [], c :: C, h => by simp at h
  | b :: B, [], h => by simp at h
  | b :: B, c :: C, h => by
    simp only [List.map_cons, List.cons.injEq] at h
    simp only [idxL, h.1, idxL_congr f h.2]
/-- On a basis the two are one. -/
theorem radd_eq {M : Nat} {B : List (List Nat)} (h : Fit M B) (hR : Ech.Red (B.map val)) {v : List Nat} (hv : smalls v) (hl : v.length ≤ M) : raddL B v = insertL B v := by
  obtain ⟨h1, h2⟩ := reduce_small h hv hl
  unfold raddL insertL
  by_cases h0 : firstI (reduceL B v) < 0
  · rw [if_pos h0, if_pos h0]
  · rw [if_neg h0, if_neg h0]
    have h0' : val (reduceL B v) ≠ 0 := fun k => h0 ((firstI_neg h1).2 k)
    rw [idxL_congr (B := B) (C := B.map fun b => stepL b (reduceL B v))]
    rw [List.map_map]
    apply List.map_congr_left
    intro b hb
    show firstI b = firstI (stepL b (reduceL B v))
    have hu := Ech.upd_low hR (v := val v) (b := val b) (by rw [← reduce_val h hv]; exact h0') (List.mem_map.2 ⟨b, hb, rfl⟩)
    have he : val (stepL b (reduceL B v)) = Ech.upd (Ech.red (B.map val) (val v)) (val b) := by
      rw [← reduce_val h hv, step_val (h b hb).1 h1]
      unfold Ech.upd
      by_cases hbit : (val b).testBit (Ech.low (val (reduceL B v))) = true
      · rw [if_pos ⟨h0', hbit⟩, if_pos hbit]
      · rw [if_neg (fun k => hbit k.2), if_neg hbit]
    rw [firstI_val (h b hb).1, firstI_val (step_small (h b hb).1 h1), he, if_neg hu.2, hu.1, if_neg (hR.1 _ (List.mem_map.2 ⟨b, hb, rfl⟩))]

def basisL (l : List (List Nat)) : List (List Nat) := l.foldl insertL []
theorem foldl_basis {M : Nat} : ∀ (l B : List (List Nat)), Fit M l → Fit M B → Ech.Red (B.map val) → Fit M (l.foldl insertL B) ∧ (l.foldl insertL B).map val = (l.map val).foldl Ech.ins (B.map val) ∧ l.foldl raddL B = l.foldl insertL B ∧ (l.foldl insertL B).length ≤ B.length + l.length
  | [], B, _, hB, _ => ⟨hB, rfl, rfl, by simp⟩
  | v :: l, B, hl, hB, hR => by
    have hv := hl v List.mem_cons_self
    have hi := insert_val hB hv.1 hv.2
    obtain ⟨h1, h2, h3, h4⟩ := foldl_basis l (insertL B v) hl.tail (hB.insert hv.1 hv.2) (by rw [hi]; exact hR.ins _)
    refine ⟨h1, ?_, ?_, ?_⟩
    · show (l.foldl insertL (insertL B v)).map val = _
      rw [h2, hi]; rfl
    · show l.foldl raddL (raddL B v) = l.foldl insertL (insertL B v)
      rw [radd_eq hB hR hv.1 hv.2, h3]
    · show (l.foldl insertL (insertL B v)).length ≤ _
      have := insert_length B v
      simp only [List.length_cons]
      omega
theorem basis_fit {M : Nat} {l : List (List Nat)} (h : Fit M l) : Fit M (basisL l) := (foldl_basis l [] h (.nil M) .nil).1
theorem basis_val {M : Nat} {l : List (List Nat)} (h : Fit M l) : (basisL l).map val = Ech.basis (l.map val) := (foldl_basis l [] h (.nil M) .nil).2.1
theorem basis_red {M : Nat} {l : List (List Nat)} (h : Fit M l) : Ech.Red ((basisL l).map val) := by rw [basis_val h]; exact Ech.red_basis _
theorem basis_len {M : Nat} {l : List (List Nat)} (h : Fit M l) : (basisL l).length ≤ l.length := by
  have h1 : (l.foldl insertL []).length ≤ l.length := by simpa using (foldl_basis l [] h (.nil M) .nil).2.2.2
  exact h1
theorem Fit.take {M : Nat} {B : List (List Nat)} (h : Fit M B) (k : Nat) : Fit M (B.take k) := fun b hb => h b (List.mem_of_mem_take hb)
theorem basis_take {l : List (List Nat)} {k : Nat} (h : k < l.length) : basisL (l.take (k + 1)) = insertL (basisL (l.take k)) (l.getD k []) := by
  unfold basisL
  rw [List.take_succ_eq_append_getElem h, List.foldl_append]
  simp [List.getD_eq_getElem?_getD, List.getElem?_eq_getElem h]

theorem Fit.getD {M : Nat} {B : List (List Nat)} (h : Fit M B) (i : Nat) : smalls (B.getD i []) ∧ (B.getD i []).length ≤ M := by
  rw [List.getD_eq_getElem?_getD]
  cases hx : B[i]? with
  | none => exact ⟨smalls.nil, Nat.zero_le _⟩
  | some x => exact h x (List.mem_of_getElem? hx)
end Go.Proofs.YtbcgiodgobmkaaaGreatDoor
namespace Go.Proofs.YtbcgiodgobmkaaaGreatDoor
open Go.RowKit
set_option linter.unusedVariables false
set_option linter.unusedSimpArgs false
set_option maxRecDepth 4000

theorem elem_u64s : Tryz.prog.underlying 25 = some (.slice (Tryz.prog.elem 25)) := by kernel_rfl
theorem elem_u64s' : Tryz.prog.elem 25 = 59 := by kernel_rfl
theorem uslice_hi (a : Option Addr) (n c q : Nat) (hc : q ≤ c) (w : World) :
    (Instr.sliceAt 25 (.slice a n c) none (some (.int .i64 (q : Int))) none).run Tryz.prog w = .ok (.slice a q c) w := by
  have hz : ∀ w : World, (sizeOf 59).run Tryz.prog w = .ok 1 w := fun w => by kernel_rfl
  rw [run_sliceAt_slice _ _ _ _ _ _ elem_u64s, run_slice_h _ _ _ _ _ elem_u64s _ _ (by omega) (by omega), elem_u64s', hz]
  cases a <;> simp [Result.andThen, sliced, Addr.add]
theorem RowAt.take {w : World} {a : Option Addr} {n : Nat} {xs : List Nat} (h : RowAt w a n xs) {k : Nat} (hk : k ≤ n) : RowAt w a k (xs.take k) := by
  refine ⟨by rw [List.length_take, h.1]; omega, fun x hx => h.2.1 x (List.mem_of_mem_take hx), ?_⟩
  rcases h.2.2 with h0 | ⟨b, off, rfl, hc⟩
  · left; omega
  · refine .inr ⟨b, off, rfl, fun i hi => ?_⟩
    rw [hc i (by omega), List.getD_eq_getElem?_getD, List.getD_eq_getElem?_getD, List.getElem?_take_of_lt hi]
end Go.Proofs.YtbcgiodgobmkaaaGreatDoor
