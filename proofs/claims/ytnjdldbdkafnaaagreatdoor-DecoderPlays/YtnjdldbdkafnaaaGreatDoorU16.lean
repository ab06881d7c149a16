/-
  Rows of words as numbers, and what echelon's calls and the reference's tell of rows, on plain lists: the two agree on a basis. Of no program; words below 2^64.
  Contract of bucketlineref13.less.
-/
import Derived.Test.YtnjdldbdkafnaaaGreatDoorEM
import Derived.Test.YtnjdldbdkafnaaaGreatDoorU1
import Derived.Test.YtnjdldbdkafnaaaGreatDoorU3
import Derived.Test.YtnjdldbdkafnaaaGreatDoorU13
namespace Go.Proofs.YtnjdldbdkafnaaaGreatDoor
open Go.RowKit
set_option linter.unusedVariables false
set_option linter.unusedSimpArgs false
set_option maxRecDepth 4000

/-- The bits of a row as one number. -/
def val : List Nat → Nat
  | [] => 0
  | x :: r => 2 ^ 64 * val r + x
theorem smalls.tail {x : Nat} {r : List Nat} (h : smalls (x :: r)) : smalls r := fun y hy => h y (List.mem_cons_of_mem _ hy)
theorem smalls.nil : smalls [] := fun _ h => by cases h
theorem val_bit : ∀ {xs : List Nat}, smalls xs → ∀ i, (val xs).testBit i = getB xs i
  | [], _, i => by simp [val, getB]
  | x :: r, h, i => by
    have hx : x < 2 ^ 64 := h x List.mem_cons_self
    rw [val, Nat.testBit_two_pow_mul_add _ hx]
    unfold getB
    by_cases hi : i < 64
    · rw [if_pos hi, show i / 64 = 0 by omega, show i % 64 = i by omega]; rfl
    · rw [if_neg hi, val_bit h.tail, getB, show i / 64 = (i - 64) / 64 + 1 by omega, show i % 64 = (i - 64) % 64 by omega]; rfl
theorem bit_xorL (a b : List Nat) (i : Nat) : getB (xorL a b) i = (getB a i ^^ getB b i) := by
  unfold getB
  rw [xorL_getD, Nat.testBit_xor]
theorem val_xor {a b : List Nat} (ha : smalls a) (hb : smalls b) : val (xorL a b) = val a ^^^ val b := by
  apply Nat.eq_of_testBit_eq
  intro i
  rw [val_bit (xorL_small ha hb), bit_xorL, Nat.testBit_xor, val_bit ha, val_bit hb]
theorem val_zero {xs : List Nat} : val xs = 0 ↔ ∀ x ∈ xs, x = 0 := by
  induction xs with
  | nil => simp [val]
  | cons x r ih =>
    rw [val]
    constructor
    · intro h y hy
      rcases List.mem_cons.1 hy with e | hy
      · omega
      · exact ih.1 (by omega) y hy
    · intro h
      have h0 := h x List.mem_cons_self
      have h1 := ih.2 fun y hy => h y (List.mem_cons_of_mem _ hy)
      omega
theorem firstI_look : ∀ (xs : List Nat), 0 ≤ firstI xs → ∃ k, k < xs.length ∧ (∀ j, j < k → xs.getD j 0 = 0) ∧ xs.getD k 0 ≠ 0 ∧ firstI xs = (k : Int) * 64 + Lib.ctz 64 (xs.getD k 0)
  | [], h => by simp [firstI] at h
  | x :: r, h => by
    by_cases hx : x = 0
    · have hr : 0 ≤ firstI r := by
        simp only [firstI, hx] at h
        split at h
        · omega
        · split at h
          · omega
          · omega
      obtain ⟨k, hk, hz, hne, he⟩ := firstI_look r hr
      have hz' : ∀ j, j < k + 1 → (x :: r).getD j 0 = 0 := by
        intro j hj
        cases j with
        | zero => simpa using hx
        | succ j => simpa using hz j (by omega)
      have hk' : k + 1 < (x :: r).length := by simpa using hk
      have hne' : (x :: r).getD (k + 1) 0 ≠ 0 := by simpa using hne
      exact ⟨k + 1, hk', hz', hne', firstI_at _ _ hk' hz' hne'⟩
    · have hk' : 0 < (x :: r).length := by simp
      have hne' : (x :: r).getD 0 0 ≠ 0 := by simpa using hx
      exact ⟨0, hk', fun j hj => by omega, hne', firstI_at _ _ hk' (fun j hj => by omega) hne'⟩
/-- The first bit of a row as the number's lowest one. -/
theorem firstI_val {xs : List Nat} (hs : smalls xs) : firstI xs = if val xs = 0 then -1 else (Ech.low (val xs) : Int) := by
  rcases firstI_cases xs with h | h
  · have h1 := val_zero.2 ((firstI_nonneg_iff xs).1 (by omega))
    rw [h, if_pos h1]
  · obtain ⟨k, hk, hz, hne, he⟩ := firstI_look xs h
    have hx := hs.get k
    have hc := ctz_lt (xs.getD k 0) hne hx
    have hb := ctz_bit (xs.getD k 0) hne hx
    have hl := fun j hj => ctz_low (xs.getD k 0) j hne hx hj
    generalize Lib.ctz 64 (xs.getD k 0) = t at *
    have h1 : (val xs).testBit (64 * k + t) = true := by rw [val_bit hs, getB_at xs k t hc]; exact hb
    have h2 : ∀ j, j < 64 * k + t → (val xs).testBit j = false := fun i hi => by
      rw [val_bit hs]
      unfold getB
      by_cases e : i / 64 < k
      · rw [hz _ e]; simp
      · rw [show i / 64 = k by omega]; exact hl _ (by omega)
    rw [if_neg (Ech.ne_of_bit h1), Ech.low_unique h1 h2, he]
    omega
theorem firstI_le {xs : List Nat} (hs : smalls xs) : firstI xs < 64 * (xs.length : Int) ∧ -1 ≤ firstI xs := by
  rcases firstI_cases xs with h | h
  · omega
  · obtain ⟨k, hk, hz, hne, he⟩ := firstI_look xs h
    have hc := ctz_lt (xs.getD k 0) hne (hs.get k)
    omega
theorem firstI_neg {xs : List Nat} (hs : smalls xs) : firstI xs < 0 ↔ val xs = 0 := by
  rw [firstI_val hs]
  split
  · rename_i h; simp [h]
  · rename_i h
    constructor
    · intro k; omega
    · intro k; exact absurd k h
theorem getI_val {xs ys : List Nat} (hx : smalls xs) (hy : smalls ys) : getI xs (firstI ys) = (decide (val ys ≠ 0) && (val xs).testBit (Ech.low (val ys))) := by
  rw [firstI_val hy]
  split
  · rename_i h; simp [h, getI]
  · rename_i h
    rw [getI_nat, val_bit hx]
    simp [h]
theorem getI_neg (xs : List Nat) (i : Int) (h : i < 0) : getI xs i = false := by unfold getI; rw [if_pos h]

/-- A row with what b's first bit takes. -/
def stepL (r b : List Nat) : List Nat := if getI r (firstI b) = true then xorL r b else r
def reduceL (B : List (List Nat)) (v : List Nat) : List Nat := B.foldl stepL v
theorem step_small {r b : List Nat} (hr : smalls r) (hb : smalls b) : smalls (stepL r b) := by
  unfold stepL
  split
  · exact xorL_small hr hb
  · exact hr
theorem step_val {r b : List Nat} (hr : smalls r) (hb : smalls b) : val (stepL r b) = if val b ≠ 0 ∧ (val r).testBit (Ech.low (val b)) = true then val r ^^^ val b else val r := by
  unfold stepL
  rw [getI_val hr hb]
  by_cases h1 : val b = 0
  · simp [h1]
  · by_cases h2 : (val r).testBit (Ech.low (val b)) = true
    · simp [h1, h2, val_xor hr hb]
    · simp [h1, h2]
theorem step_length (r b : List Nat) (M : Nat) (hr : r.length ≤ M) (hb : b.length ≤ M) : (stepL r b).length ≤ M := by
  unfold stepL
  split
  · rw [xorL_length]; omega
  · exact hr
/-- Rows whose words are words, and which have at most M of them. -/
def Fit (M : Nat) (B : List (List Nat)) : Prop := ∀ b ∈ B, smalls b ∧ b.length ≤ M
theorem Fit.nil (M : Nat) : Fit M [] := fun _ h => by cases h
theorem Fit.tail {M : Nat} {b : List Nat} {B : List (List Nat)} (h : Fit M (b :: B)) : Fit M B := fun a ha => h a (List.mem_cons_of_mem _ ha)
theorem reduce_small {M : Nat} : ∀ {B : List (List Nat)}, Fit M B → ∀ {v : List Nat}, smalls v → v.length ≤ M → smalls (reduceL B v) ∧ (reduceL B v).length ≤ M
  | [], _, v, hv, hl => ⟨hv, hl⟩
  | b :: B, h, v, hv, hl => by
    have hb := h b List.mem_cons_self
    exact reduce_small h.tail (step_small hv hb.1) (step_length v b M hl hb.2)
theorem reduce_val {M : Nat} : ∀ {B : List (List Nat)}, Fit M B → ∀ {v : List Nat}, smalls v → val (reduceL B v) = Ech.red (B.map val) (val v)
  | [], _, v, hv => rfl
  | b :: B, h, v, hv => by
    have hb := h b List.mem_cons_self
    show val (reduceL B (stepL v b)) = Ech.red (B.map val) _
    rw [reduce_val h.tail (step_small hv hb.1), step_val hv hb.1]
theorem reduce_take {B : List (List Nat)} {v : List Nat} {k : Nat} (h : k < B.length) : reduceL (B.take (k + 1)) v = stepL (reduceL (B.take k) v) (B.getD k []) := by
  unfold reduceL
  rw [List.take_succ_eq_append_getElem h, List.foldl_append]
  simp [List.getD_eq_getElem?_getD, List.getElem?_eq_getElem h]
theorem reduce_all {B : List (List Nat)} {v : List Nat} {k : Nat} (h : B.length ≤ k) : reduceL (B.take k) v = reduceL B v := by rw [List.take_of_length_le h]

/-- The place of the first row whose first bit is greater than f; how many rows, if there is none. -/
def idxL (f : Int) : List (List Nat) → Nat
  | [] => 0
  | b :: B => if f < firstI b then 0 else idxL f B + 1
theorem idxL_le (f : Int) : ∀ B, idxL f B ≤ B.length
  | [] => Nat.le_refl _
  | b :: B => by
    simp only [idxL]
    split
    · exact Nat.zero_le _
    · have := idxL_le f B; simp only [List.length_cons]; omega
theorem idxL_low (f : Int) : ∀ (B : List (List Nat)) (j : Nat), j < idxL f B → ¬ f < firstI (B.getD j [])
  | [], j, h => by simp [idxL] at h
  | b :: B, j, h => by
    simp only [idxL] at h
    split at h
    · omega
    · rename_i hb
      cases j with
      | zero => simpa using hb
      | succ j => simpa using idxL_low f B j (by omega)
theorem idxL_at (f : Int) : ∀ (B : List (List Nat)), idxL f B < B.length → f < firstI (B.getD (idxL f B) [])
  | [], h => by simp [idxL] at h
  | b :: B, h => by
    simp only [idxL] at h ⊢
    split
    · rename_i hb; simpa using hb
    · rename_i hb
      rw [if_neg hb] at h
      simpa using idxL_at f B (by simpa using h)
/-- r at place p. -/
def insAt (r : List Nat) (p : Nat) (C : List (List Nat)) : List (List Nat) := C.take p ++ r :: C.drop p
theorem insAt_length (r : List Nat) (p : Nat) (C : List (List Nat)) (h : p ≤ C.length) : (insAt r p C).length = C.length + 1 := by
  simp [insAt]; omega
theorem insAt_mem {r : List Nat} {p : Nat} {C : List (List Nat)} {x : List Nat} : x ∈ insAt r p C ↔ x = r ∨ x ∈ C := by
  unfold insAt
  rw [List.mem_append, List.mem_cons]
  constructor
  · rintro (h | h | h)
    · exact .inr (List.mem_of_mem_take h)
    · exact .inl h
    · exact .inr (List.mem_of_mem_drop h)
  · rintro (h | h)
    · exact .inr (.inl h)
    · rw [← List.take_append_drop p C, List.mem_append] at h
      rcases h with h | h
      · exact .inl h
      · exact .inr (.inr h)
theorem lt_first {a b : List Nat} (ha : smalls a) (hb : smalls b) (h : val a ≠ 0) : firstI a < firstI b ↔ Ech.low (val a) < Ech.low (val b) := by
  rw [firstI_val ha, firstI_val hb, if_neg h]
  split
  · rename_i h0
    rw [h0]
    have : Ech.low 0 = 0 := rfl
    omega
  · omega
theorem put_val {M : Nat} {r : List Nat} (hr : smalls r) (h0 : val r ≠ 0) : ∀ {C : List (List Nat)}, Fit M C → (insAt r (idxL (firstI r) C) C).map val = Ech.put (val r) (C.map val)
  | [], _ => rfl
  | c :: C, h => by
    have hc := h c List.mem_cons_self
    have hl := lt_first hr hc.1 h0
    simp only [idxL, List.map_cons, Ech.put]
    by_cases hlt : firstI r < firstI c
    · rw [if_pos hlt, if_pos (hl.1 hlt)]; rfl
    · rw [if_neg hlt, if_neg (fun k => hlt (hl.2 k)), ← put_val hr h0 h.tail]; rfl
/-- Add of echelon, and the reference's. -/
def insertL (B : List (List Nat)) (v : List Nat) : List (List Nat) :=
  if firstI (reduceL B v) < 0 then B else insAt (reduceL B v) (idxL (firstI (reduceL B v)) (B.map fun b => stepL b (reduceL B v))) (B.map fun b => stepL b (reduceL B v))
def raddL (B : List (List Nat)) (v : List Nat) : List (List Nat) :=
  if firstI (reduceL B v) < 0 then B else insAt (reduceL B v) (idxL (firstI (reduceL B v)) B) (B.map fun b => stepL b (reduceL B v))
theorem Fit.map {M : Nat} {B : List (List Nat)} (h : Fit M B) {r : List Nat} (hr : smalls r) (hl : r.length ≤ M) : Fit M (B.map fun b => stepL b r) := by
  intro x hx
  obtain ⟨b, hb, rfl⟩ := List.mem_map.1 hx
  exact ⟨step_small (h b hb).1 hr, step_length b r M (h b hb).2 hl⟩
theorem Fit.insert {M : Nat} {B : List (List Nat)} (h : Fit M B) {v : List Nat} (hv : smalls v) (hl : v.length ≤ M) : Fit M (insertL B v) := by
  obtain ⟨h1, h2⟩ := reduce_small h hv hl
  unfold insertL
  split
  · exact h
  · intro x hx
    rcases insAt_mem.1 hx with e | hx
    · rw [e]; exact ⟨h1, h2⟩
    · exact h.map h1 h2 x hx
theorem insert_length (B : List (List Nat)) (v : List Nat) : (insertL B v).length ≤ B.length + 1 := by
  unfold insertL
  split
  · omega
  · rw [insAt_length _ _ _ (idxL_le _ _), List.length_map]; exact Nat.le_refl _
theorem map_val {M : Nat} {B : List (List Nat)} (h : Fit M B) {r : List Nat} (hr : smalls r) (h0 : val r ≠ 0) : (B.map fun b => stepL b r).map val = (B.map val).map (Ech.upd (val r)) := by
  rw [List.map_map, List.map_map]
  apply List.map_congr_left
  intro b hb
  show val (stepL b r) = Ech.upd (val r) (val b)
  rw [step_val (h b hb).1 hr]
  unfold Ech.upd
  by_cases hbit : (val b).testBit (Ech.low (val r)) = true
  · rw [if_pos ⟨h0, hbit⟩, if_pos hbit]
  · rw [if_neg (fun k => hbit k.2), if_neg hbit]
theorem insert_val {M : Nat} {B : List (List Nat)} (h : Fit M B) {v : List Nat} (hv : smalls v) (hl : v.length ≤ M) : (insertL B v).map val = Ech.ins (B.map val) (val v) := by
  obtain ⟨h1, h2⟩ := reduce_small h hv hl
  unfold insertL Ech.ins
  rw [← reduce_val h hv]
  by_cases h0 : val (reduceL B v) = 0
  · rw [if_pos ((firstI_neg h1).2 h0), if_pos h0]
  · rw [if_neg (fun k => h0 ((firstI_neg h1).1 k)), if_neg h0, put_val h1 h0 (h.map h1 h2), map_val h h1 h0]
theorem idxL_congr (f : Int) : ∀ {B C : List (List Nat)}, B.map firstI = C.map firstI → idxL f B = idxL f C
  | [], [], _ => rfl
  | [], c :: C, h => by simp at h
  | b :: B, [], h => by simp at h
  | b :: B, c :: C, h => by
    simp only [List.map_cons, List.cons.injEq] at h
    simp only [idxL, h.1, idxL_congr f h.2]
/-- On a basis the two are one. -/
theorem radd_eq {M : Nat} {B : List (List Nat)} (h : Fit M B) (hR : Ech.Red (B.map val)) {v : List Nat} (hv : smalls v) (hl : v.length ≤ M) : raddL B v = insertL B v := by
  obtain ⟨h1, h2⟩ := reduce_small h hv hl
  unfold raddL insertL
  by_cases h0 : firstI (reduceL B v) < 0
  · rw [if_pos h0, if_pos h0]
  · rw [if_neg h0, if_neg h0]
    have h0' : val (reduceL B v) ≠ 0 := fun k => h0 ((firstI_neg h1).2 k)
    rw [idxL_congr (B := B) (C := B.map fun b => stepL b (reduceL B v))]
    rw [List.map_map]
    apply List.map_congr_left
    intro b hb
    show firstI b = firstI (stepL b (reduceL B v))
    have hu := Ech.upd_low hR (v := val v) (b := val b) (by rw [← reduce_val h hv]; exact h0') (List.mem_map.2 ⟨b, hb, rfl⟩)
    have he : val (stepL b (reduceL B v)) = Ech.upd (Ech.red (B.map val) (val v)) (val b) := by
      rw [← reduce_val h hv, step_val (h b hb).1 h1]
      unfold Ech.upd
      by_cases hbit : (val b).testBit (Ech.low (val (reduceL B v))) = true
      · rw [if_pos ⟨h0', hbit⟩, if_pos hbit]
      · rw [if_neg (fun k => hbit k.2), if_neg hbit]
    rw [firstI_val (h b hb).1, firstI_val (step_small (h b hb).1 h1), he, if_neg hu.2, hu.1, if_neg (hR.1 _ (List.mem_map.2 ⟨b, hb, rfl⟩))]

def basisL (l : List (List Nat)) : List (List Nat) := l.foldl insertL []
theorem foldl_basis {M : Nat} : ∀ (l B : List (List Nat)), Fit M l → Fit M B → Ech.Red (B.map val) → Fit M (l.foldl insertL B) ∧ (l.foldl insertL B).map val = (l.map val).foldl Ech.ins (B.map val) ∧ l.foldl raddL B = l.foldl insertL B ∧ (l.foldl insertL B).length ≤ B.length + l.length
  | [], B, _, hB, _ => ⟨hB, rfl, rfl, by simp⟩
  | v :: l, B, hl, hB, hR => by
    have hv := hl v List.mem_cons_self
    have hi := insert_val hB hv.1 hv.2
    obtain ⟨h1, h2, h3, h4⟩ := foldl_basis l (insertL B v) hl.tail (hB.insert hv.1 hv.2) (by rw [hi]; exact hR.ins _)
    refine ⟨h1, ?_, ?_, ?_⟩
    · show (l.foldl insertL (insertL B v)).map val = _
      rw [h2, hi]; rfl
    · show l.foldl raddL (raddL B v) = l.foldl insertL (insertL B v)
      rw [radd_eq hB hR hv.1 hv.2, h3]
    · show (l.foldl insertL (insertL B v)).length ≤ _
      have := insert_length B v
      simp only [List.length_cons]
      omega
theorem basis_fit {M : Nat} {l : List (List Nat)} (h : Fit M l) : Fit M (basisL l) := (foldl_basis l [] h (.nil M) .nil).1
theorem basis_val {M : Nat} {l : List (List Nat)} (h : Fit M l) : (basisL l).map val = Ech.basis (l.map val) := (foldl_basis l [] h (.nil M) .nil).2.1
theorem basis_red {M : Nat} {l : List (List Nat)} (h : Fit M l) : Ech.Red ((basisL l).map val) := by rw [basis_val h]; exact Ech.red_basis _
theorem basis_len {M : Nat} {l : List (List Nat)} (h : Fit M l) : (basisL l).length ≤ l.length := by
  have h1 : (l.foldl insertL []).length ≤ l.length := by simpa using (foldl_basis l [] h (.nil M) .nil).2.2.2
  exact h1
theorem Fit.take {M : Nat} {B : List (List Nat)} (h : Fit M B) (k : Nat) : Fit M (B.take k) := fun b hb => h b (List.mem_of_mem_take hb)
theorem basis_take {l : List (List Nat)} {k : Nat} (h : k < l.length) : basisL (l.take (k + 1)) = insertL (basisL (l.take k)) (l.getD k []) := by
  unfold basisL
  rw [List.take_succ_eq_append_getElem h, List.foldl_append]
  simp [List.getD_eq_getElem?_getD, List.getElem?_eq_getElem h]

theorem Fit.getD {M : Nat} {B : List (List Nat)} (h : Fit M B) (i : Nat) : smalls (B.getD i []) ∧ (B.getD i []).length ≤ M := by
  rw [List.getD_eq_getElem?_getD]
  cases hx : B[i]? with
  | none => exact ⟨smalls.nil, Nat.zero_le _⟩
  | some x => exact h x (List.mem_of_getElem? hx)
end Go.Proofs.YtnjdldbdkafnaaaGreatDoor
namespace Go.Proofs.YtnjdldbdkafnaaaGreatDoor
open Go.RowKit Go.Sort
set_option linter.unusedVariables false
set_option linter.unusedSimpArgs false
set_option maxRecDepth 4000

theorem rows_two {w : World} {r q : RV} (hr : RowAt w r.a r.n r.xs) (hq : RowAt w q.a q.n q.xs) : RowsAt (w.alloc (.cells #[.slice r.a r.n r.c, .string r.s, .slice q.a q.n q.c, .string q.s] 29)) (some ⟨w.heap.size, 0, none⟩) 2 [r, q] := by
  have hb : Below w.heap.size w (w.alloc (.cells #[.slice r.a r.n r.c, .string r.s, .slice q.a q.n q.c, .string q.s] 29)) := (Below.refl _ _).alloc (Nat.le_refl _) _
  refine ⟨rfl, fun i hi => ?_, .inr ⟨w.heap.size, 0, rfl, fun i hi => ?_⟩⟩
  · match i, hi with
    | 0, _ => exact hr.below hb
    | 1, _ => exact hq.below hb
  · match i, hi with
    | 0, _ => constructor <;> simp
    | 1, _ => constructor <;> simp
theorem row2_any (r q : RV) (w : World) (hr : RowAt w r.a r.n r.xs) (hq : RowAt w q.a q.n q.xs) (h1 : r.n ≤ 10 ∧ r.s.size ≤ 1000) (h2 : q.n ≤ 10 ∧ q.s.size ≤ 1000) :
    Calls Tryz.prog 72 #[.slice (some ⟨w.heap.size, 0, none⟩) 2 2] (w.alloc (.cells #[.slice r.a r.n r.c, .string r.s, .slice q.a q.n q.c, .string q.s] 29)) fun e w' => ∃ v, e = .returned (.agg #[v, .string (xorS r.s q.s)]) ∧ Own w' w.heap.size v (xorL r.xs q.xs) ∧ Below w.heap.size w w' := by
  have hb : Below w.heap.size w (w.alloc (.cells #[.slice r.a r.n r.c, .string r.s, .slice q.a q.n q.c, .string q.s] 29)) := (Below.refl _ _).alloc (Nat.le_refl _) _
  refine (rrow_any _ 2 2 [r, q] _ (rows_two hr hq) (fun i => ?_) (by omega)).mono ?_
  · match i with
    | 0 => exact h1
    | 1 => exact h2
    | i + 2 => exact ⟨Nat.zero_le _, Nat.zero_le _⟩
  · rintro e w' ⟨v, rfl, ho, hb2⟩
    refine ⟨v, ?_, ?_, below0 hb hb2⟩
    · show Ending.returned (.agg #[v, .string (st (xorL (xorL [] (tx r.s)) (tx q.s)))]) = _
      rw [nil_xorL]; rfl
    · have e : vecL [r, q] = xorL r.xs q.xs := by
        show xorL (xorL [] r.xs) q.xs = _
        rw [nil_xorL]
      rw [e] at ho
      exact ho.mono hb.size

set_option maxHeartbeats 4000000 in
theorem less_any (a : Option Addr) (n c : Nat) (ks : List RV) (r : RV) (w : World) (h : RowsAt w a n ks) (hs : shortR ks) (hn : n ≤ 1048576) (hr : RowAt w r.a r.n r.xs) (hrs : r.n ≤ 10 ∧ r.s.size ≤ 1000) :
    Calls Tryz.prog 56 #[.slice a n c, .agg #[.slice r.a r.n r.c, .string r.s]] w fun e w' => ∃ r' : RV, e = .returned (.agg #[.slice r'.a r'.n r'.c, .string r'.s]) ∧ LeR w w' w.heap.size r r' ∧ core r' = lessL (ks.map core) (core r) ∧ r'.n ≤ 10 ∧ r'.s.size ≤ 1000 ∧ Below w.heap.size w w' := by
  obtain rfl := h.1
  have hb0 := below2 (o := .cells #[.slice r.a r.n r.c, .string r.s] 29) (o' := .cells #[.slice none 0 0, .string ⟨#[]⟩] 29) (Below.refl _ w) (Below.refl _ _)
  have hX0 := (boxW_new w (.slice r.a r.n r.c) (.string r.s)).alloc (.cells #[.slice none 0 0, .string ⟨#[]⟩] 29)
  have hX1 := boxW_new (w.alloc (.cells #[.slice r.a r.n r.c, .string r.s] 29)) (.slice none 0 0) (.string ⟨#[]⟩)
  rw [alloc_size] at hX1
  have HK : Hid (LeS w ((w.alloc (.cells #[.slice r.a r.n r.c, .string r.s] 29)).alloc (.cells #[.slice none 0 0, .string ⟨#[]⟩] 29)) ks r 0 r) := hide ⟨hX0, hX1, .inl ⟨rfl, rfl, rfl, rfl⟩, rfl, hrs.1, hrs.2, hb0, by simp⟩
  have Hh := hide h
  have Hs := hide hs
  have HR := hide hr
  clear hb0 hX0 hX1 h hs hr
  go_enter Tryz.func56, Tryz.ntmps56
  go_wp2
  go_loopw [5] (fun i wr => ∃ k : Nat, ∃ r' : RV, k ≤ ks.length ∧ i = .int .i64 k ∧ Hid (LeS w wr ks r k r')) (fun i _ => ks.length - (intOf i).toNat)
  case atStart => exact ⟨0, r, Nat.zero_le _, rfl, HK⟩
  case round =>
    obtain ⟨k, r', hk, rfl, HL⟩ := hrel
    clear HK
    by_cases hlt : k < ks.length
    · have hL := unhide HL
      have hR := (unhide Hh).below hL.2.2.2.2.2.2.1
      obtain ⟨b, off, rfl, hcl⟩ := hR.at hlt
      obtain ⟨hc0, hc1⟩ := hcl k hlt
      obtain ⟨hx0, hx1⟩ := hL.1.1
      have hrow := hL.2.2.1.row (unhide HR) hL.2.2.2.2.2.2.1
      have hq := hR.2.1 k hlt
      have hqs := unhide Hs k
      have hlt' : (k : Int) < (ks.length : Int) := by omega
      have HSK := hide (fun (w1 : World) hno hb => hL.skip (w1 := w1) hlt hno hb)
      have HMO := hide (fun (w1 : World) (a2 : Option Addr) (c2 : Nat) hyes hl hs hrl hb ho => hL.more (w1 := w1) (a2 := a2) (c2 := c2) hlt hyes hl hs hrl hb ho)
      generalize ks.getD k .dflt = q at *
      have hfl := (firstI_le hq.2.1).1
      have k0 := cell_regrown hx0
      have k1 := cell_regrown hc0
      have cF := quietB (W := wr) (fun w' hb => same_below (rfirst_any q.a q.n q.c q.xs w' (hq.below hb) (by omega)))
      have cG := quietB (W := wr) (fun w' hb => same_below (rget_any r'.a r'.n r'.c r'.xs (firstI q.xs) w' (hrow.below hb) (by have := hL.2.2.2.2.1; omega) (by have := hq.1; omega)))
      have hBX := hide (fun (w1 : World) (hb : Below wr.heap.size wr w1) => hL.1.below hb)
      have hRW := hide (fun (w1 : World) (hb : Below wr.heap.size wr w1) => hrow.below hb)
      have hQW := hide (fun (w1 : World) (hb : Below wr.heap.size wr w1) => hq.below hb)
      have hrl := hide hrow.1
      have hql := hide hq.1
      have hn1 := hL.2.2.2.2.1
      have hs1 := hL.2.2.2.2.2.1
      have hbl : Hid (b < w.heap.size) := hide (by
        obtain ⟨b', off', he, hcl'⟩ := (unhide Hh).at hlt
        simp only [Option.some.injEq, Addr.mk.injEq, and_true] at he
        have := World.block_lt_of_cell? w _ (hcl' k hlt).1
        have e := he.1
        simp at this
        omega)
      generalize firstI q.xs = fi at *
      clear hcl hR hL hrow hq hfl
      cases hg : getI r'.xs fi
      · rw [hg] at cG
        have HS2 := hide (fun (w1 : World) hb => unhide HSK w1 hg hb)
        clear HSK HMO
        go_wp2_with fail
        refine wp_region_quiet_below (by kernel_rfl) (by kernel_rfl) ?_
        repeat (with_reducible refine wpQuiet_step (fun K hK => ?_); go_simp; first | (with_reducible refine hK _ ?_; clear hK K) | (apply Exists.intro; apply And.intro; (intro _; first | (go_at_call 71; exact cF _ _) | (go_at_call 39; exact cG _ _)); with_reducible refine hK _ ?_; clear hK K))
        refine wpQuiet_nil ?_
        intro _ hw'
        obtain ⟨⟨dq, osq⟩, hw''⟩ := hw'
        subst hw''
        have hbr := below_regrown wr dq osq
        have HS3 := hide (unhide HS2 _ hbr)
        clear hbr HS2 cF cG k0 k1 hx0 hx1 hc0 hc1 HL hBX hRW hQW
        generalize grow (redrawn wr dq) osq = w3 at *
        go_wp2
        go_roundw
        case rel => exact ⟨k + 1, r', by omega, by go_num, HS3⟩
        case measure => simp [intOf]; omega
      · rw [hg] at cG
        have HM2 := hide (fun (w1 : World) (a2 : Option Addr) (c2 : Nat) hb ho => unhide HMO w1 a2 c2 hg (by have := unhide hql; omega) hqs.2 (unhide hrl).symm hb ho)
        clear HSK HMO
        go_wp2_with fail
        refine wp_region_quiet_below (by kernel_rfl) (by kernel_rfl) ?_
        repeat (with_reducible refine wpQuiet_step (fun K hK => ?_); go_simp; first | (with_reducible refine hK _ ?_; clear hK K) | (apply Exists.intro; apply And.intro; (intro _; first | (go_at_call 71; exact cF _ _) | (go_at_call 39; exact cG _ _)); with_reducible refine hK _ ?_; clear hK K))
        refine wpQuiet_nil ?_
        intro _ hw'
        obtain ⟨⟨dq, osq⟩, hw''⟩ := hw'
        subst hw''
        have hbr := below_regrown wr dq osq
        have y0 := (hbr.cell (World.block_lt_of_cell? wr _ hc0)).trans hc0
        have y1 := (hbr.cell (World.block_lt_of_cell? wr _ hc1)).trans hc1
        obtain ⟨⟨z0, z1⟩, f0, f1⟩ := unhide hBX _ hbr
        have HRO := hide (row2_any r' q (World.drew (grow (redrawn wr dq) osq)) ((unhide hRW _ hbr).below (Below.refl _ _).drew) ((unhide hQW _ hbr).below (Below.refl _ _).drew) ⟨hn1, hs1⟩ hqs)
        have HBR := hide hbr
        clear hbr cF cG k0 k1 hx0 hx1 hc0 hc1 HL hRW hQW f0 f1
        generalize grow (redrawn wr dq) osq = w3 at *
        go_wp2_with fail
        refine wp_region_any (by kernel_rfl) ?_
        change wpAny _ _ _ _ _ _ _ (World.drew _)
        refine wpAny_take (i := 1) (v := ?_) rfl (by kernel_rfl) (by kernel_rfl) (by kernel_rfl) (fun _ _ _ h => h) (Or.inl ⟨by rfl, ?f1⟩) ?_
        case f1 => (intro w; go_simp; try with_reducible rfl)
        refine wpAny_take (i := 2) (v := ?_) rfl (by kernel_rfl) (by kernel_rfl) (by kernel_rfl) (fun _ _ _ h => h) (Or.inl ⟨by rfl, ?f2⟩) ?_
        case f2 => (intro w; go_simp; try with_reducible rfl)
        refine wpAny_take (i := 3) (v := ?_) rfl (by kernel_rfl) (by kernel_rfl) (by kernel_rfl) (fun _ _ _ h => h) (Or.inl ⟨by rfl, ?f3⟩) ?_
        case f3 => (intro w; go_simp; try with_reducible rfl)
        refine wpAny_ready (rs := [0, 4]) (by kernel_rfl) (by simp) ?_
        refine AllReady.cons rfl (fun K hK => ?_) (AllReady.cons rfl (fun K hK => ?_) AllReady.nil)
        go_simp
        refine hK _ _ ?_
        clear hK K
        refine wpAny_ready (rs := [4]) (by kernel_rfl) (by simp) ?_
        refine AllReady.cons rfl (fun K hK => ?_) AllReady.nil
        go_simp
        refine hK _ _ ?_
        clear hK K
        rotate_left
        go_simp
        refine hK _ _ ?_
        clear hK K
        refine wpAny_ready (rs := [0]) (by kernel_rfl) (by simp) ?_
        refine AllReady.cons rfl (fun K hK => ?_) AllReady.nil
        go_simp
        refine hK _ _ ?_
        clear hK K
        rotate_left
        all_goals
          refine wpAny_ready (rs := [5]) (by kernel_rfl) (by simp) ?_
          refine AllReady.cons rfl (fun K hK => ?_) AllReady.nil
          go_simp
          refine hK _ _ ?_
          clear hK K
          refine wpAny_ready (rs := [6]) (by kernel_rfl) (by simp) ?_
          refine AllReady.cons rfl (fun K hK => ?_) AllReady.nil
          go_simp
          refine (unhide HRO).mono ?_
          rintro e w4 ⟨v4, rfl, ho4, hb4⟩
          obtain ⟨a4, c4, rfl, hr4⟩ := ho4.row
          have hb4w : Below wr.heap.size wr w4 := below0 (unhide HBR) (below0 ((Below.refl w3.heap.size w3).drew) hb4)
          obtain ⟨⟨q0, q1⟩, g0, g1⟩ := unhide hBX _ hb4w
          have HM4 := hide (unhide HM2 w4 a4 c4 hb4w (ho4.mono (unhide HBR).size))
          clear ho4 hb4 hr4 hb4w HM2 HRO
          refine hK _ _ ?_
          clear hK K
          refine wpAny_ready (rs := [7]) (by kernel_rfl) (by simp) ?_
          refine AllReady.cons rfl (fun K hK => ?_) AllReady.nil
          go_simp
          refine hK _ _ ?_
          clear hK K
          refine wpAny_done (by kernel_rfl) ?_ _
          go_wp2
          go_roundw
          case rel => exact ⟨k + 1, _, by omega, by go_num, HM4⟩
          case measure => simp [intOf]; omega
    · have hke : ks.take k = ks := List.take_of_length_le (by omega)
      have hL := unhide HL
      rw [LeS, hke] at hL
      obtain ⟨⟨⟨x0, x1⟩, _, _⟩, ⟨⟨x2, x3⟩, f2, f3⟩, hLe, hco, hn1, hs1, hB, hS⟩ := hL
      have HE := hide (⟨hLe, hco, hn1, hs1, hB⟩ : LeR w wr (w.heap.size + 2) r r' ∧ core r' = lessL (ks.map core) (core r) ∧ r'.n ≤ 10 ∧ r'.s.size ≤ 1000 ∧ Below w.heap.size w wr)
      clear hLe hco hn1 hs1 hB HL Hh Hs
      go_wp2
      have y1 := World.cell?_setCell_same (wr.setCell ⟨w.heap.size + 1, 0, none⟩ (.slice r'.a r'.n r'.c)) ⟨w.heap.size + 1, 1, none⟩ (.string r'.s) ((World.cell?_setCell_other (h := by simp) ..).trans x3)
      have y0 : ((wr.setCell ⟨w.heap.size + 1, 0, none⟩ (.slice r'.a r'.n r'.c)).setCell ⟨w.heap.size + 1, 1, none⟩ (.string r'.s)).cell? ⟨w.heap.size + 1, 0, none⟩ = some (.slice r'.a r'.n r'.c) :=
        (World.cell?_setCell_other (h := by simp) ..).trans (World.cell?_setCell_same _ _ _ x2)
      obtain ⟨hLe, hco, hn1, hs1, hB⟩ := unhide HE
      refine bodyPost_ret (v := .agg #[.slice r'.a r'.n r'.c, .string r'.s]) (by simp [results, Tryz.results56, go_sem, y0, y1]) rfl ⟨r', rfl, ?_, hco, hn1, hs1, (hB.setCell (p := ⟨w.heap.size + 1, 0, none⟩) (Nat.le_succ _) _).setCell (p := ⟨w.heap.size + 1, 1, none⟩) (Nat.le_succ _) _⟩
      exact hLe.imp id fun h => ((h.other _ _ (by omega)).other _ _ (by omega)).mono (by omega)
end Go.Proofs.YtnjdldbdkafnaaaGreatDoor
