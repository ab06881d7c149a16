/-
  What span's calls and the reference's tell of rows of words, on plain lists: the places that are kept, and the choice whose xor a row is. Of no program; words below 2^64.
-/
import Derived.Test.YtnjdldbdkafnaaaGreatDoorU16
import Derived.Test.YtnjdldbdkafnaaaGreatDoorSM
namespace Go.Proofs.YtnjdldbdkafnaaaGreatDoor
open Go.RowKit
set_option linter.unusedVariables false
set_option linter.unusedSimpArgs false
set_option maxRecDepth 4000

/-- One row more, as it is left. -/
def addTL (B : List (List Nat)) (v : List Nat) : List (List Nat) := if firstI (reduceL B v) < 0 then B else B ++ [reduceL B v]
def broughtL (l : List (List Nat)) : List (List Nat) := l.foldl addTL []
theorem Fit.addT {M : Nat} {B : List (List Nat)} (h : Fit M B) {v : List Nat} (hv : smalls v) (hl : v.length ≤ M) : Fit M (addTL B v) := by
  unfold addTL
  split
  · exact h
  · intro x hx
    rcases List.mem_append.1 hx with hx | hx
    · exact h x hx
    · rw [List.mem_singleton.1 hx]; exact reduce_small h hv hl
theorem addT_val {M : Nat} {B : List (List Nat)} (h : Fit M B) {v : List Nat} (hv : smalls v) (hl : v.length ≤ M) : (addTL B v).map val = Ech.addT (B.map val) (val v) := by
  obtain ⟨h1, h2⟩ := reduce_small h hv hl
  unfold addTL Ech.addT
  rw [← reduce_val h hv]
  by_cases h0 : val (reduceL B v) = 0
  · rw [if_pos ((firstI_neg h1).2 h0), if_pos h0]
  · rw [if_neg (fun k => h0 ((firstI_neg h1).1 k)), if_neg h0]; simp
theorem addT_len (B : List (List Nat)) (v : List Nat) : (addTL B v).length ≤ B.length + 1 := by
  unfold addTL
  split
  · omega
  · simp
theorem foldl_addTL {M : Nat} : ∀ (l B : List (List Nat)), Fit M l → Fit M B → Fit M (l.foldl addTL B) ∧ (l.foldl addTL B).map val = (l.map val).foldl Ech.addT (B.map val) ∧ (l.foldl addTL B).length ≤ B.length + l.length
  | [], B, _, hB => ⟨hB, rfl, by simp⟩
  | v :: l, B, hl, hB => by
    have hv := hl v List.mem_cons_self
    obtain ⟨h1, h2, h3⟩ := foldl_addTL l (addTL B v) hl.tail (hB.addT hv.1 hv.2)
    refine ⟨h1, ?_, ?_⟩
    · show (l.foldl addTL (addTL B v)).map val = _
      rw [h2, addT_val hB hv.1 hv.2]; rfl
    · show (l.foldl addTL (addTL B v)).length ≤ _
      have := addT_len B v
      simp only [List.length_cons]
      omega
theorem brought_fit {M : Nat} {l : List (List Nat)} (h : Fit M l) : Fit M (broughtL l) := (foldl_addTL l [] h (.nil M)).1
theorem brought_val {M : Nat} {l : List (List Nat)} (h : Fit M l) : (broughtL l).map val = (l.map val).foldl Ech.addT [] := (foldl_addTL l [] h (.nil M)).2.1
theorem brought_len {M : Nat} {l : List (List Nat)} (h : Fit M l) : (broughtL l).length ≤ l.length := by
  have h1 : (l.foldl addTL []).length ≤ l.length := by simpa using (foldl_addTL l [] h (.nil M)).2.2
  exact h1
theorem brought_tri {M : Nat} {l : List (List Nat)} (h : Fit M l) : Ech.Tri ((broughtL l).map val) := by rw [brought_val h]; exact (Ech.foldl_addT _ _ .nil).1
theorem brought_sp {M : Nat} {l : List (List Nat)} (h : Fit M l) (x : Nat) : Ech.Sp ((broughtL l).map val) x ↔ Ech.Sp (l.map val) x := by rw [brought_val h]; exact (Ech.foldl_addT _ _ .nil).2 x
theorem brought_take {l : List (List Nat)} {k : Nat} (h : k < l.length) : broughtL (l.take (k + 1)) = addTL (broughtL (l.take k)) (l.getD k []) := by
  unfold broughtL
  rw [List.take_succ_eq_append_getElem h, List.foldl_append]
  simp [List.getD_eq_getElem?_getD, List.getElem?_eq_getElem h]
/-- Whether a row is in the span. -/
theorem brought_in {M : Nat} {l : List (List Nat)} (h : Fit M l) {v : List Nat} (hv : smalls v) (hl : v.length ≤ M) : firstI (reduceL (broughtL l) v) < 0 ↔ Ech.Sp (l.map val) (val v) := by
  rw [firstI_neg (reduce_small (brought_fit h) hv hl).1, reduce_val (brought_fit h) hv, Ech.tri_zero (brought_tri h), brought_sp h]
theorem basis_in_iff {M : Nat} {l : List (List Nat)} (h : Fit M l) {v : List Nat} (hv : smalls v) (hl : v.length ≤ M) : firstI (reduceL (basisL l) v) < 0 ↔ Ech.Sp (l.map val) (val v) := by
  rw [firstI_neg (reduce_small (basis_fit h) hv hl).1, reduce_val (basis_fit h) hv, Ech.red_zero (basis_red h), basis_val h, Ech.sp_basis]

/-- The places that are kept of the first k rows. -/
def keepL (rs : List (List Nat)) : Nat → List Nat
  | 0 => []
  | k + 1 => if firstI (reduceL (broughtL (rs.take k)) (rs.getD k [])) < 0 then keepL rs k else keepL rs k ++ [k]
def rkeepL (rs : List (List Nat)) : Nat → List Nat
  | 0 => []
  | k + 1 => if firstI (reduceL (basisL (rs.take k)) (rs.getD k [])) < 0 then rkeepL rs k else rkeepL rs k ++ [k]
theorem keep_eq {M : Nat} {rs : List (List Nat)} (h : Fit M rs) : ∀ k, rkeepL rs k = keepL rs k
  | 0 => rfl
  | k + 1 => by
    have h1 := brought_in (h.take k) (h.getD k).1 (h.getD k).2
    have h2 := basis_in_iff (h.take k) (h.getD k).1 (h.getD k).2
    simp only [rkeepL, keepL, keep_eq h k]
    by_cases hs : Ech.Sp ((rs.take k).map val) (val (rs.getD k []))
    · rw [if_pos (h1.2 hs), if_pos (h2.2 hs)]
    · rw [if_neg (fun e => hs (h1.1 e)), if_neg (fun e => hs (h2.1 e))]
theorem keep_lt (rs : List (List Nat)) : ∀ k, ∀ i ∈ keepL rs k, i < k
  | 0, i, h => by cases h
  | k + 1, i, h => by
    simp only [keepL] at h
    split at h
    · have := keep_lt rs k i h; omega
    · rcases List.mem_append.1 h with h | h
      · have := keep_lt rs k i h; omega
      · rw [List.mem_singleton.1 h]; omega
theorem keep_len (rs : List (List Nat)) : ∀ k, (keepL rs k).length ≤ k
  | 0 => Nat.le_refl _
  | k + 1 => by
    have := keep_len rs k
    simp only [keepL]
    split
    · omega
    · simp; omega
theorem keep_brought (rs : List (List Nat)) : ∀ k, k ≤ rs.length → (keepL rs k).length = (broughtL (rs.take k)).length
  | 0, _ => by simp [keepL, broughtL]
  | k + 1, h => by
    rw [brought_take (by omega)]
    simp only [keepL, addTL]
    have := keep_brought rs k (by omega)
    split <;> simp [this]
theorem rkeep_basis (rs : List (List Nat)) : ∀ k, k ≤ rs.length → (rkeepL rs k).length = (basisL (rs.take k)).length
  | 0, _ => by simp [rkeepL, basisL]
  | k + 1, h => by
    rw [basis_take (by omega)]
    simp only [rkeepL, insertL]
    have := rkeep_basis rs k (by omega)
    split
    · exact this
    · rw [insAt_length _ _ _ (idxL_le _ _)]
      simp [this]
/-- The rows at places. -/
def rowsAt (rs : List (List Nat)) (ps : List Nat) : List (List Nat) := ps.map fun i => rs.getD i []
def keptL (rs : List (List Nat)) : List (List Nat) := rowsAt rs (keepL rs rs.length)
theorem rowsAt_fit {M : Nat} {rs : List (List Nat)} (h : Fit M rs) (ps : List Nat) : Fit M (rowsAt rs ps) := by
  intro x hx
  obtain ⟨i, _, rfl⟩ := List.mem_map.1 hx
  exact h.getD i
theorem keep_span {M : Nat} {rs : List (List Nat)} (h : Fit M rs) : ∀ k, k ≤ rs.length → (∀ x, Ech.Sp ((rowsAt rs (keepL rs k)).map val) x ↔ Ech.Sp ((rs.take k).map val) x) ∧ Ech.Ind ((rowsAt rs (keepL rs k)).map val)
  | 0, _ => ⟨fun x => by simp [keepL, rowsAt], Ech.Ind.nil⟩
  | k + 1, hk => by
    obtain ⟨h1, h2⟩ := keep_span h k (by omega)
    have hin := brought_in (h.take k) (h.getD k).1 (h.getD k).2
    have ht : (rs.take (k + 1)).map val = (rs.take k).map val ++ [val (rs.getD k [])] := by
      rw [List.take_succ_eq_append_getElem (show k < rs.length by omega), List.map_append, List.getD_eq_getElem?_getD, List.getElem?_eq_getElem (show k < rs.length by omega)]
      rfl
    rw [ht]
    simp only [keepL]
    split
    · rename_i h0
      refine ⟨fun x => ?_, h2⟩
      rw [h1]
      refine ⟨fun e => e.mono fun a ha => List.mem_append_left _ ha, fun e => e.of fun a ha => ?_⟩
      rcases List.mem_append.1 ha with ha | ha
      · exact .of_mem ha
      · rw [List.mem_singleton.1 ha]; exact hin.1 h0
    · rename_i h0
      have he : (rowsAt rs (keepL rs k ++ [k])).map val = (rowsAt rs (keepL rs k)).map val ++ [val (rs.getD k [])] := by simp [rowsAt]
      rw [he]
      refine ⟨fun x => ⟨fun e => e.of fun a ha => ?_, fun e => e.of fun a ha => ?_⟩, h2.snoc fun e => h0 (hin.2 ((h1 _).1 e))⟩
      · rcases List.mem_append.1 ha with ha | ha
        · exact ((h1 a).1 (.of_mem ha)).mono fun c hc => List.mem_append_left _ hc
        · exact .of_mem (List.mem_append_right _ ha)
      · rcases List.mem_append.1 ha with ha | ha
        · exact ((h1 a).2 (.of_mem ha)).mono fun c hc => List.mem_append_left _ hc
        · exact .of_mem (List.mem_append_right _ ha)
theorem kept_sp {M : Nat} {rs : List (List Nat)} (h : Fit M rs) (x : Nat) : Ech.Sp ((keptL rs).map val) x ↔ Ech.Sp (rs.map val) x := by
  have := (keep_span h rs.length (Nat.le_refl _)).1 x
  rwa [List.take_length] at this
theorem kept_ind {M : Nat} {rs : List (List Nat)} (h : Fit M rs) : Ech.Ind ((keptL rs).map val) := (keep_span h rs.length (Nat.le_refl _)).2
theorem kept_len (rs : List (List Nat)) : ((keptL rs).map val).length = (keepL rs rs.length).length := by simp [keptL, rowsAt]
theorem kept_get (rs : List (List Nat)) (i : Nat) (hi : i < (keepL rs rs.length).length) : ((keptL rs).map val).getD i 0 = val (rs.getD ((keepL rs rs.length).getD i 0) []) := by
  simp [keptL, rowsAt, List.getD_eq_getElem?_getD, List.getElem?_eq_getElem hi]
/-- As many are kept as the rank; those alone have it. -/
theorem keep_rank {M : Nat} {rs : List (List Nat)} (h : Fit M rs) : (keepL rs rs.length).length = (basisL rs).length := by
  rw [← keep_eq h, rkeep_basis rs _ (Nat.le_refl _), List.take_length]

/-- The places that a choice tells. -/
def chosenL (ps : List Nat) (p : Nat → Bool) : Nat → List Nat
  | 0 => []
  | n + 1 => if p n = true then chosenL ps p n ++ [ps.getD n 0] else chosenL ps p n
theorem chosen_congr (ps : List Nat) {p q : Nat → Bool} : ∀ n, (∀ i, i < n → p i = q i) → chosenL ps p n = chosenL ps q n
  | 0, _ => rfl
  | n + 1, h => by simp only [chosenL]; rw [chosen_congr ps n fun i hi => h i (by omega), h n (by omega)]
theorem chosen_len (ps : List Nat) (p : Nat → Bool) : ∀ n, (chosenL ps p n).length ≤ n
  | 0 => Nat.le_refl _
  | n + 1 => by
    have := chosen_len ps p n
    simp only [chosenL]
    split
    · simp; omega
    · omega
theorem chosen_sub (ps : List Nat) (p : Nat → Bool) : ∀ n, n ≤ ps.length → List.Sublist (chosenL ps p n) (ps.take n)
  | 0, _ => by simp [chosenL]
  | n + 1, h => by
    rw [List.take_succ_eq_append_getElem (show n < ps.length by omega)]
    simp only [chosenL]
    split
    · refine (chosen_sub ps p n (by omega)).append ?_
      simp [List.getD_eq_getElem?_getD, List.getElem?_eq_getElem (show n < ps.length by omega)]
    · exact (chosen_sub ps p n (by omega)).trans (List.sublist_append_left _ _)
theorem chosen_lt {rs : List (List Nat)} {p : Nat → Bool} {n : Nat} (hn : n ≤ (keepL rs rs.length).length) : ∀ i ∈ chosenL (keepL rs rs.length) p n, i < rs.length := fun i hi =>
  keep_lt rs _ i (List.mem_of_mem_take ((chosen_sub _ p n hn).subset hi))
/-- The xor of the rows at places. -/
def sumV (rs : List (List Nat)) (ps : List Nat) : List Nat := ps.foldl (fun x i => xorL x (rs.getD i [])) []
theorem sum_fold {M : Nat} {rs : List (List Nat)} (h : Fit M rs) : ∀ (ps : List Nat) (x : List Nat), smalls x → x.length ≤ M → smalls (ps.foldl (fun x i => xorL x (rs.getD i [])) x) ∧ (ps.foldl (fun x i => xorL x (rs.getD i [])) x).length ≤ M
  | [], x, hx, hl => ⟨hx, hl⟩
  | i :: ps, x, hx, hl => sum_fold h ps _ (xorL_small hx (h.getD i).1) (by rw [xorL_length]; have := (h.getD i).2; omega)
theorem sum_small {M : Nat} {rs : List (List Nat)} (h : Fit M rs) (ps : List Nat) : smalls (sumV rs ps) ∧ (sumV rs ps).length ≤ M := sum_fold h ps [] smalls.nil (Nat.zero_le _)
theorem sum_snoc (rs : List (List Nat)) (ps : List Nat) (i : Nat) : sumV rs (ps ++ [i]) = xorL (sumV rs ps) (rs.getD i []) := by simp [sumV]
theorem sum_val {M : Nat} {rs : List (List Nat)} (h : Fit M rs) (ps : List Nat) (c : Nat) : ∀ n, n ≤ ps.length → val (sumV rs (chosenL ps (fun i => c.testBit i) n)) = Ech.lin ((rowsAt rs ps).map val) c n
  | 0, _ => rfl
  | n + 1, hn => by
    have hg : ((rowsAt rs ps).map val).getD n 0 = val (rs.getD (ps.getD n 0) []) := by simp [rowsAt, List.getD_eq_getElem?_getD, List.getElem?_eq_getElem (show n < ps.length by omega)]
    simp only [chosenL, Ech.lin]
    rw [hg]
    split
    · rw [sum_snoc, val_xor (sum_small h _).1 (h.getD _).1, sum_val h ps c n (by omega)]
    · rw [sum_val h ps c n (by omega), Nat.xor_zero]

theorem val_lt : ∀ {xs : List Nat}, smalls xs → val xs < 2 ^ (64 * xs.length)
  | [], _ => by simp [val]
  | x :: r, h => by
    have hx : x < 2 ^ 64 := h x List.mem_cons_self
    have hr := val_lt h.tail
    rw [val, List.length_cons, show 64 * (r.length + 1) = 64 + 64 * r.length by omega, Nat.pow_add]
    calc 2 ^ 64 * val r + x < 2 ^ 64 * val r + 2 ^ 64 := by omega
      _ = 2 ^ 64 * (val r + 1) := by rw [Nat.mul_add, Nat.mul_one]
      _ ≤ 2 ^ 64 * 2 ^ (64 * r.length) := Nat.mul_le_mul_left _ hr
/-- The choice whose xor a row is. -/
def Choice (rs : List (List Nat)) (v : List Nat) (c : Nat) : Prop := c < 2 ^ (keepL rs rs.length).length ∧ Ech.lin ((keptL rs).map val) c (keepL rs rs.length).length = val v
theorem Choice.uniq {M : Nat} {rs : List (List Nat)} (h : Fit M rs) {v : List Nat} {c d : Nat} (hc : Choice rs v c) (hd : Choice rs v d) : c = d := by
  refine (kept_ind h).uniq ?_ ?_ ?_
  · rw [kept_len]; exact hc.1
  · rw [kept_len]; exact hd.1
  · rw [kept_len, hc.2, hd.2]
theorem choice_of {M : Nat} {rs : List (List Nat)} (h : Fit M rs) {v : List Nat} (hv : Ech.Sp (rs.map val) (val v)) : ∃ c, Choice rs v c := by
  obtain ⟨c, h1, h2⟩ := Ech.lin_of_sp ((kept_sp h _).2 hv)
  rw [kept_len] at h1 h2
  exact ⟨c, h1, h2⟩
/-- What is told is xored to the row. -/
theorem Choice.sum {M : Nat} {rs : List (List Nat)} (h : Fit M rs) {v : List Nat} {c : Nat} (hc : Choice rs v c) : val (sumV rs (chosenL (keepL rs rs.length) (fun i => c.testBit i) (keepL rs rs.length).length)) = val v := by
  rw [sum_val h _ _ _ (Nat.le_refl _)]
  exact hc.2

theorem getB_setB (xs : List Nat) (i j : Nat) (h : i < 64 * xs.length) : getB (setB xs i true) j = (decide (j = i) || getB xs j) := by
  have hi : i / 64 < xs.length := by omega
  unfold getB setB setW
  rw [getD_set]
  by_cases h1 : j / 64 = i / 64
  · rw [if_pos ⟨h1, hi⟩, h1]
    by_cases h2 : j % 64 = i % 64
    · have h3 : j = i := by omega
      subst h3
      split
      · rename_i hb; rw [hb]; simp
      · rename_i hb; rw [Nat.testBit_xor, Nat.testBit_two_pow]; simp at hb; simp [hb]
    · have h3 : decide (j = i) = false := by simp; omega
      have h4 : decide (i % 64 = j % 64) = false := by simp; omega
      split
      · rw [h3]; rfl
      · rw [Nat.testBit_xor, Nat.testBit_two_pow, h3, h4]; simp
  · have h3 : decide (j = i) = false := by simp; omega
    rw [if_neg (fun k => h1 k.1), h3]; rfl
theorem setB_small {xs : List Nat} (h : smalls xs) (i : Nat) (on : Bool) : smalls (setB xs i on) := h.set _ _ (setW_lt _ _ _ (h.get _) (by omega))
/-- The bits fs of v, one behind the other, set in a row. -/
def pickL (row v fs : List Nat) : Nat → List Nat
  | 0 => row
  | k + 1 => if getB v (fs.getD k 0) = true then setB (pickL row v fs k) k true else pickL row v fs k
theorem pick_len (row v fs : List Nat) : ∀ k, (pickL row v fs k).length = row.length
  | 0 => rfl
  | k + 1 => by
    simp only [pickL]
    split
    · rw [setB_length, pick_len row v fs k]
    · exact pick_len row v fs k
theorem pick_small {row : List Nat} (h : smalls row) (v fs : List Nat) : ∀ k, smalls (pickL row v fs k)
  | 0 => h
  | k + 1 => by
    simp only [pickL]
    split
    · exact setB_small (pick_small h v fs k) _ _
    · exact pick_small h v fs k
theorem pick_bit (row v fs : List Nat) (j : Nat) : ∀ k, k ≤ 64 * row.length → getB (pickL row v fs k) j = (getB row j || (decide (j < k) && getB v (fs.getD j 0)))
  | 0, _ => by simp [pickL]
  | k + 1, h => by
    have ih := pick_bit row v fs j k (by omega)
    simp only [pickL]
    by_cases h1 : j = k
    · subst h1
      have h0 : decide (j < j) = false := by simp
      have h2 : decide (j < j + 1) = true := by simp
      rw [h0] at ih
      rw [h2]
      split
      · rename_i hb
        rw [getB_setB _ _ _ (by rw [pick_len]; omega), ih, hb]; simp
      · rename_i hb
        rw [ih, show getB v (fs.getD j 0) = false by simpa using hb]; simp
    · have h2 : decide (j < k + 1) = decide (j < k) := by by_cases h5 : j < k <;> simp [h5] <;> omega
      rw [h2]
      split
      · rw [getB_setB _ _ _ (by rw [pick_len]; omega), ih]; simp [h1]
      · exact ih
def zeros (n : Nat) : List Nat := List.replicate n 0
theorem zeros_small (n : Nat) : smalls (zeros n) := fun x hx => by rw [List.eq_of_mem_replicate hx]; show 0 < 18446744073709551616; decide
theorem zeros_len (n : Nat) : (zeros n).length = n := by simp [zeros]
theorem zeros_bit (n j : Nat) : getB (zeros n) j = false := by
  unfold getB zeros
  rw [List.getD_eq_getElem?_getD, List.getElem?_replicate]
  split <;> simp
theorem pick_val {s n : Nat} {v fs : List Nat} (hv : smalls v) (hn : n ≤ 64 * s) : val (pickL (zeros s) v fs n) = Ech.proj fs (val v) n := by
  apply Nat.eq_of_testBit_eq
  intro j
  rw [val_bit (pick_small (zeros_small s) v fs n), pick_bit _ _ _ _ _ (by rw [zeros_len]; exact hn), zeros_bit, Ech.proj_bit, val_bit hv]
  simp
/-- .. and a mark behind them. -/
theorem mark_val {s n i : Nat} {v fs : List Nat} (hv : smalls v) (hn : n ≤ 64 * s) (hi : n + i < 64 * s) : val (setB (pickL (zeros s) v fs n) (n + i) true) = Ech.proj fs (val v) n ^^^ 2 ^ (n + i) := by
  apply Nat.eq_of_testBit_eq
  intro j
  rw [val_bit (setB_small (pick_small (zeros_small s) v fs n) _ _), getB_setB _ _ _ (by rw [pick_len, zeros_len]; exact hi), Nat.testBit_xor, Nat.testBit_two_pow,
    pick_bit _ _ _ _ _ (by rw [zeros_len]; exact hn), zeros_bit, Ech.proj_bit, val_bit hv]
  by_cases h1 : j = n + i
  · have h2 : decide (j < n) = false := by simp; omega
    rw [h2]; simp [h1]
  · have h2 : decide (n + i = j) = false := by simp; omega
    have h3 : decide (j = n + i) = false := by simpa using h1
    rw [h2, h3]; simp
/-- The program's way: bits that tell the span's rows apart, with marks behind them. -/
theorem express_bits {M M' : Nat} {rs : List (List Nat)} (hf : Fit M rs) {v fs q : List Nat} {R : List (List Nat)} (hfs : fs = (broughtL rs).map fun b => Ech.low (val b)) (hR : R.length = (keepL rs rs.length).length) (hRf : Fit M' R)
    (hRi : ∀ i, i < (keepL rs rs.length).length → val (R.getD i []) = Ech.proj fs (val (rs.getD ((keepL rs rs.length).getD i 0) [])) (keepL rs rs.length).length ^^^ 2 ^ ((keepL rs rs.length).length + i))
    (hq : smalls q) (hqv : val q = Ech.proj fs (val v) (keepL rs rs.length).length) (hql : q.length ≤ M') {c : Nat} (hc : Choice rs v c) (i : Nat) : getB (reduceL (broughtL R) q) ((keepL rs rs.length).length + i) = c.testBit i := by
  have hbl : ((broughtL rs).map val).length = (keepL rs rs.length).length := by rw [List.length_map, keep_brought rs _ (Nat.le_refl _), List.take_length]
  have hm := Ech.mark_red (ks := (keptL rs).map val) (R := R.map val) (B := (broughtL R).map val) (P := fun x => Ech.proj fs x (keepL rs rs.length).length) (W := (keepL rs rs.length).length) (c := c) (Ech.proj_xor fs _) (fun x _ => Ech.proj_lt fs x _)
    (fun x hx h0 => by
      refine Ech.proj_inj (brought_tri hf) (fs := fs) (by rw [hfs]; simp) ((brought_sp hf x).2 ((kept_sp hf x).1 hx)) ?_
      rw [hbl]; exact h0) (kept_ind hf) (by rw [kept_len, List.length_map, hR])
    (fun i hi => by
      rw [kept_len] at hi
      rw [kept_get rs i hi, ← hRi i hi]
      simp [List.getD_eq_getElem?_getD, List.getElem?_eq_getElem (show i < R.length by omega)]) (brought_tri hRf) (brought_sp hRf) (by rw [kept_len]; exact hc.1)
  rw [kept_len, hc.2, ← hqv, ← reduce_val (brought_fit hRf) hq] at hm
  rw [← val_bit (reduce_small (brought_fit hRf) hq hql).1, hm, Ech.shift_high]
theorem sp_below {M : Nat} {l : List (List Nat)} (h : Fit M l) {x : Nat} (k : Ech.Sp (l.map val) x) : x < 2 ^ (64 * M) := by
  refine Ech.Sp.ind (P := fun x => x < 2 ^ (64 * M)) (Nat.two_pow_pos _) (fun b x hb ih => ?_) k
  obtain ⟨a, ha, rfl⟩ := List.mem_map.1 hb
  refine Nat.xor_lt_two_pow (Nat.lt_of_lt_of_le (val_lt (h a ha).1) (Nat.pow_le_pow_right (by decide) ?_)) ih
  have := (h a ha).2
  omega
/-- The reference's way: a bit more each, behind all of theirs. -/
theorem express_ref {M' W : Nat} {rs : List (List Nat)} (hf : Fit W rs) {v : List Nat} {E : List (List Nat)} (hE : E.length = (keepL rs rs.length).length) (hEf : Fit M' E)
    (hEi : ∀ i, i < (keepL rs rs.length).length → val (E.getD i []) = val (rs.getD ((keepL rs rs.length).getD i 0) []) ^^^ 2 ^ (64 * W + i)) (hv : smalls v) (hvW : v.length ≤ W) (hvl : v.length ≤ M') :
    (∀ c, Choice rs v c → (firstI (reduceL (basisL E) v) < 0 ∨ 64 * (W : Int) ≤ firstI (reduceL (basisL E) v)) ∧ ∀ i, getB (reduceL (basisL E) v) (64 * W + i) = c.testBit i) ∧
    (¬ Ech.Sp (rs.map val) (val v) → 0 ≤ firstI (reduceL (basisL E) v) ∧ firstI (reduceL (basisL E) v) < 64 * (W : Int)) := by
  have hEg : ∀ i, i < ((keptL rs).map val).length → (E.map val).getD i 0 = ((keptL rs).map val).getD i 0 ^^^ 2 ^ (64 * W + i) := fun i hi => by
    rw [kept_len] at hi
    rw [kept_get rs i hi, ← hEi i hi]
    simp [List.getD_eq_getElem?_getD, List.getElem?_eq_getElem (show i < E.length by omega)]
  have hsp : ∀ x, Ech.Sp ((basisL E).map val) x ↔ Ech.Sp (E.map val) x := fun x => by rw [basis_val hEf, Ech.sp_basis]
  have hkb : ∀ x, Ech.Sp ((keptL rs).map val) x → x < 2 ^ (64 * W) := fun x hx => sp_below hf ((kept_sp hf x).1 hx)
  have hr := reduce_small (basis_fit hEf) hv hvl
  have hrv := reduce_val (basis_fit hEf) hv
  refine ⟨fun c hc => ?_, fun hn => ?_⟩
  · have hm := Ech.mark_red (ks := (keptL rs).map val) (R := E.map val) (B := (basisL E).map val) (P := fun x => x) (W := 64 * W) (c := c) (fun _ _ => rfl) hkb (fun x _ h0 => h0) (kept_ind hf) (by rw [kept_len, List.length_map, hE]) hEg
      (basis_red hEf).tri hsp (by rw [kept_len]; exact hc.1)
    rw [kept_len, hc.2, ← hrv] at hm
    refine ⟨?_, fun i => by rw [← val_bit hr.1, hm, Ech.shift_high]⟩
    rw [firstI_val hr.1]
    split
    · left; omega
    · rename_i h0
      right
      rcases Nat.lt_or_ge (Ech.low (val (reduceL (basisL E) v))) (64 * W) with h1 | h1
      · have h2 := Ech.low_bit h0
        rw [hm] at h2 h1
        rw [Ech.shift_low h1] at h2
        cases h2
      · omega
  · have hm := Ech.mark_none (ks := (keptL rs).map val) (R := E.map val) (B := (basisL E).map val) (W := 64 * W) hkb (by rw [kept_len, List.length_map, hE]) hEg (basis_red hEf).tri hsp (v := val v)
      (Nat.lt_of_lt_of_le (val_lt hv) (Nat.pow_le_pow_right (by decide) (by omega))) (fun e => hn ((kept_sp hf _).1 e))
    rw [← hrv] at hm
    rw [firstI_val hr.1, if_neg hm.1]
    have := hm.2
    omega
end Go.Proofs.YtnjdldbdkafnaaaGreatDoor
