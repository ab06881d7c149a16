/-
  Plain mathematics of what a span has, the rows being numbers: rows of which none has the lowest bit of one ahead, the xor that a choice tells, and that a row with a mark of its own behind all tells its choice. Of no program, no condition.
-/
import Derived.Test.YtnjdldbdkafnaaaGreatDoorEM
namespace Go.Proofs.YtnjdldbdkafnaaaGreatDoor.Ech

/-- Rows of which none has the lowest bit of one ahead. -/
def Tri (B : List Nat) : Prop := (∀ b ∈ B, b ≠ 0) ∧ B.Pairwise fun a b => b.testBit (low a) = false
theorem Red.tri {B : List Nat} (h : Red B) : Tri B := by
  refine ⟨h.1, List.Pairwise.imp_of_mem ?_ h.2⟩
  intro a b ha hb hab
  exact low_none (h.1 b hb) hab.1
theorem Tri.nil : Tri [] := ⟨(fun _ h => by cases h), List.Pairwise.nil⟩
theorem Tri.tail {b : Nat} {B : List Nat} (h : Tri (b :: B)) : Tri B := ⟨fun a ha => h.1 a (List.mem_cons_of_mem _ ha), (List.pairwise_cons.1 h.2).2⟩
theorem Tri.head {b : Nat} {B : List Nat} (h : Tri (b :: B)) : ∀ a ∈ B, a.testBit (low b) = false := (List.pairwise_cons.1 h.2).1
theorem Tri.snoc {B : List Nat} {r : Nat} (h : Tri B) (hr : r ≠ 0) (hl : ∀ b ∈ B, r.testBit (low b) = false) : Tri (B ++ [r]) := by
  refine ⟨fun a ha => ?_, List.pairwise_append.2 ⟨h.2, by simp, fun a ha b hb => ?_⟩⟩
  · rcases List.mem_append.1 ha with ha | ha
    · exact h.1 a ha
    · rw [List.mem_singleton.1 ha]; exact hr
  · rw [List.mem_singleton.1 hb]; exact hl a ha
theorem sp_nil {x : Nat} (h : Sp [] x) : x = 0 := Sp.ind (B := []) (P := fun x => x = 0) rfl (fun b x hb _ => by cases hb) h
theorem sp_cons {b x : Nat} {B : List Nat} (h : Sp (b :: B) x) : Sp B x ∨ Sp B (b ^^^ x) := by
  refine Sp.ind (P := fun x => Sp B x ∨ Sp B (b ^^^ x)) (.inl .zero) (fun c x hc ih => ?_) h
  rcases List.mem_cons.1 hc with e | hc
  · subst e
    rcases ih with ih | ih
    · right
      rw [← Nat.xor_assoc, Nat.xor_self, Nat.zero_xor]; exact ih
    · exact .inl ih
  · rcases ih with ih | ih
    · exact .inl (.add hc ih)
    · right
      rw [xor_mid]
      exact .add hc ih
theorem sp_bit {B : List Nat} {i x : Nat} (h : ∀ b ∈ B, b.testBit i = false) (k : Sp B x) : x.testBit i = false := by
  refine Sp.ind (P := fun x => x.testBit i = false) (Nat.zero_testBit _) (fun b x hb ih => ?_) k
  rw [Nat.testBit_xor, h b hb, ih]; rfl
theorem tri_none : ∀ {B : List Nat}, Tri B → ∀ {x : Nat}, Sp B x → (∀ b ∈ B, x.testBit (low b) = false) → x = 0
  | [], _, x, k, _ => sp_nil k
  | b :: B, h, x, k, hl => by
    rcases sp_cons k with k1 | k1
    · exact tri_none h.tail k1 fun a ha => hl a (List.mem_cons_of_mem _ ha)
    · have h1 := sp_bit h.head k1
      rw [Nat.testBit_xor, low_bit (h.1 b List.mem_cons_self), hl b List.mem_cons_self] at h1
      cases h1
theorem tri_red : ∀ {B : List Nat}, Tri B → ∀ v : Nat, (∀ b ∈ B, (red B v).testBit (low b) = false) ∧ Sp B (v ^^^ red B v)
  | [], _, v => ⟨(fun _ h => by cases h), by show Sp [] (v ^^^ v); rw [Nat.xor_self]; exact .zero⟩
  | b :: B, h, v => by
    have hb := h.1 b List.mem_cons_self
    have key : ∀ v' : Nat, v'.testBit (low b) = false → Sp (b :: B) (v ^^^ v') → (∀ a ∈ b :: B, (red B v').testBit (low a) = false) ∧ Sp (b :: B) (v ^^^ red B v') := fun v' h1 h2 => by
      obtain ⟨k1, k2⟩ := tri_red h.tail v'
      have h3 := sp_bit h.head k2
      rw [Nat.testBit_xor, h1] at h3
      refine ⟨fun a ha => ?_, ?_⟩
      · rcases List.mem_cons.1 ha with e | ha
        · rw [e]; simpa using h3
        · exact k1 a ha
      · have := h2.xor (k2.mono fun a ha => List.mem_cons_of_mem _ ha)
        rwa [Nat.xor_assoc, ← Nat.xor_assoc v' v', Nat.xor_self, Nat.zero_xor] at this
    show (∀ a ∈ b :: B, (red B (if b ≠ 0 ∧ v.testBit (low b) = true then v ^^^ b else v)).testBit (low a) = false) ∧ Sp (b :: B) (v ^^^ red B (if b ≠ 0 ∧ v.testBit (low b) = true then v ^^^ b else v))
    by_cases hv : v.testBit (low b) = true
    · rw [if_pos ⟨hb, hv⟩]
      refine key _ (by rw [Nat.testBit_xor, hv, low_bit hb]; rfl) ?_
      rw [← Nat.xor_assoc, Nat.xor_self, Nat.zero_xor]
      exact .of_mem List.mem_cons_self
    · rw [if_neg (fun k => hv k.2)]
      refine key _ (by simpa using hv) ?_
      rw [Nat.xor_self]; exact .zero
theorem sp_swap {B : List Nat} {v r : Nat} (h : Sp B (v ^^^ r)) (k : Sp B v) : Sp B r := by
  have := k.xor h
  rwa [← Nat.xor_assoc, Nat.xor_self, Nat.zero_xor] at this
theorem tri_zero {B : List Nat} (h : Tri B) (v : Nat) : red B v = 0 ↔ Sp B v := by
  obtain ⟨h1, h2⟩ := tri_red h v
  constructor
  · intro e
    rw [e, Nat.xor_zero] at h2
    exact h2
  · intro k
    exact tri_none h (sp_swap h2 k) h1
/-- One row more, as it is left. -/
def addT (B : List Nat) (v : Nat) : List Nat := if red B v = 0 then B else B ++ [red B v]
theorem Tri.addT {B : List Nat} (h : Tri B) (v : Nat) : Tri (addT B v) := by
  unfold Ech.addT
  split
  · exact h
  · rename_i hr; exact h.snoc hr (tri_red h v).1
theorem sp_addT {B : List Nat} (h : Tri B) (v x : Nat) : Sp (addT B v) x ↔ Sp (B ++ [v]) x := by
  have h2 := (tri_red h v).2
  unfold addT
  split
  · rename_i hr
    have hv := (tri_zero h v).1 hr
    refine ⟨fun k => k.mono fun a ha => List.mem_append_left _ ha, fun k => k.of fun a ha => ?_⟩
    rcases List.mem_append.1 ha with ha | ha
    · exact .of_mem ha
    · rw [List.mem_singleton.1 ha]; exact hv
  · constructor
    · intro k
      refine k.of fun a ha => ?_
      rcases List.mem_append.1 ha with ha | ha
      · exact .of_mem (List.mem_append_left _ ha)
      · rw [List.mem_singleton.1 ha]
        exact sp_swap (h2.mono fun a ha => List.mem_append_left _ ha) (.of_mem (by simp))
    · intro k
      refine k.of fun a ha => ?_
      rcases List.mem_append.1 ha with ha | ha
      · exact .of_mem (List.mem_append_left _ ha)
      · rw [List.mem_singleton.1 ha]
        refine sp_swap (v := red B v) ?_ (.of_mem (by simp))
        rw [Nat.xor_comm]
        exact h2.mono fun a ha => List.mem_append_left _ ha
theorem foldl_addT : ∀ (l B : List Nat), Tri B → Tri (l.foldl addT B) ∧ ∀ x, Sp (l.foldl addT B) x ↔ Sp (B ++ l) x
  | [], B, h => ⟨h, fun x => by simp⟩
  | v :: l, B, h => by
    obtain ⟨h1, h2⟩ := foldl_addT l (addT B v) (h.addT v)
    refine ⟨h1, fun x => ?_⟩
    show Sp (l.foldl addT (addT B v)) x ↔ _
    rw [h2]
    constructor
    · intro k
      refine k.of fun a ha => ?_
      rcases List.mem_append.1 ha with ha | ha
      · exact ((sp_addT h v a).1 (.of_mem ha)).mono fun c hc => by
          rcases List.mem_append.1 hc with hc | hc
          · simp [hc]
          · rw [List.mem_singleton.1 hc]; simp
      · exact .of_mem (by simp [ha])
    · intro k
      refine k.of fun a ha => ?_
      rcases List.mem_append.1 ha with ha | ha
      · exact ((sp_addT h v a).2 (.of_mem (by simp [ha]))).mono fun c hc => List.mem_append_left _ hc
      · rcases List.mem_cons.1 ha with e | ha
        · rw [e]
          exact ((sp_addT h v v).2 (.of_mem (by simp))).mono fun c hc => List.mem_append_left _ hc
        · exact .of_mem (List.mem_append_right _ ha)

/-- The xor of those of the first n rows that c's bits tell. -/
def lin (ks : List Nat) (c : Nat) : Nat → Nat
  | 0 => 0
  | n + 1 => lin ks c n ^^^ (if c.testBit n = true then ks.getD n 0 else 0)
theorem lin_list {ks ks' : List Nat} (c : Nat) : ∀ n, (∀ i, i < n → ks.getD i 0 = ks'.getD i 0) → lin ks c n = lin ks' c n
  | 0, _ => rfl
  | n + 1, h => by simp only [lin]; rw [lin_list c n fun i hi => h i (by omega), h n (by omega)]
theorem lin_xor (ks : List Nat) (c d : Nat) : ∀ n, lin ks (c ^^^ d) n = lin ks c n ^^^ lin ks d n
  | 0 => by simp [lin]
  | n + 1 => by
    simp only [lin, Nat.testBit_xor, lin_xor ks c d n]
    generalize lin ks c n = x
    generalize lin ks d n = y
    generalize ks.getD n 0 = z
    apply Nat.eq_of_testBit_eq
    intro i
    cases c.testBit n <;> cases d.testBit n <;> simp [Nat.testBit_xor] <;> cases x.testBit i <;> cases y.testBit i <;> cases z.testBit i <;> rfl
theorem lin_zero (ks : List Nat) : ∀ n, lin ks 0 n = 0
  | 0 => rfl
  | n + 1 => by simp [lin, lin_zero ks n]
theorem lin_unit (ks : List Nat) (j : Nat) : ∀ n, lin ks (2 ^ j) n = if j < n then ks.getD j 0 else 0
  | 0 => by simp [lin]
  | n + 1 => by
    simp only [lin]
    rw [lin_unit ks j n, Nat.testBit_two_pow]
    by_cases h1 : j < n
    · have h3 : decide (j = n) = false := by simp; omega
      rw [if_pos h1, if_pos (show j < n + 1 by omega), h3, if_neg (by decide), Nat.xor_zero]
    · rw [if_neg h1]
      by_cases h2 : j = n
      · subst h2
        rw [if_pos (show j < j + 1 by omega), decide_eq_true rfl, if_pos rfl, Nat.zero_xor]
      · have h3 : decide (j = n) = false := by simpa using h2
        rw [if_neg (show ¬ j < n + 1 by omega), h3, if_neg (by decide), Nat.xor_zero]
theorem sp_lin (ks : List Nat) (c : Nat) : ∀ n, n ≤ ks.length → Sp ks (lin ks c n)
  | 0, _ => .zero
  | n + 1, h => by
    simp only [lin]
    refine (sp_lin ks c n (by omega)).xor ?_
    split
    · refine .of_mem ?_
      rw [List.getD_eq_getElem?_getD, List.getElem?_eq_getElem (show n < ks.length by omega)]
      exact List.getElem_mem _
    · exact .zero
theorem lin_of_sp {ks : List Nat} {x : Nat} (h : Sp ks x) : ∃ c, c < 2 ^ ks.length ∧ lin ks c ks.length = x := by
  refine Sp.ind (P := fun x => ∃ c, c < 2 ^ ks.length ∧ lin ks c ks.length = x) ⟨0, Nat.two_pow_pos _, lin_zero _ _⟩ (fun b x hb ih => ?_) h
  obtain ⟨c, hc, rfl⟩ := ih
  obtain ⟨j, hj, rfl⟩ := List.getElem_of_mem hb
  refine ⟨2 ^ j ^^^ c, Nat.xor_lt_two_pow (Nat.pow_lt_pow_right (by decide) hj) hc, ?_⟩
  rw [lin_xor, lin_unit, if_pos hj, List.getD_eq_getElem?_getD, List.getElem?_eq_getElem hj]
  rfl
/-- No choice but the empty one makes nothing. -/
def Ind (ks : List Nat) : Prop := ∀ c, c < 2 ^ ks.length → lin ks c ks.length = 0 → c = 0
theorem Ind.nil : Ind [] := fun c hc _ => by simp at hc; exact hc
theorem lt_of_bit {c n : Nat} (h : c < 2 ^ (n + 1)) (hb : c.testBit n = false) : c < 2 ^ n := by
  rw [Nat.pow_succ] at h
  rw [Nat.testBit_eq_decide_div_mod_eq] at hb
  have h1 : c / 2 ^ n < 2 := Nat.div_lt_of_lt_mul h
  have h2 : c / 2 ^ n = 0 := by
    have h3 : ¬ c / 2 ^ n % 2 = 1 := of_decide_eq_false hb
    generalize c / 2 ^ n = q at *
    omega
  rcases Nat.lt_or_ge c (2 ^ n) with h3 | h3
  · exact h3
  · have := Nat.div_pos h3 (Nat.two_pow_pos n); omega
theorem Ind.snoc {ks : List Nat} {r : Nat} (h : Ind ks) (hr : ¬ Sp ks r) : Ind (ks ++ [r]) := by
  intro c hc h0
  rw [List.length_append, List.length_singleton] at hc h0
  simp only [lin] at h0
  rw [lin_list (ks' := ks) c ks.length fun i hi => by rw [List.getD_eq_getElem?_getD, List.getElem?_append_left hi, ← List.getD_eq_getElem?_getD]] at h0
  have e : (ks ++ [r]).getD ks.length 0 = r := by simp [List.getD_eq_getElem?_getD]
  rw [e] at h0
  by_cases hb : c.testBit ks.length = true
  · rw [if_pos hb] at h0
    exact absurd (by rw [← eq_of_xor h0]; exact sp_lin ks c ks.length (Nat.le_refl _)) hr
  · rw [if_neg hb, Nat.xor_zero] at h0
    exact h c (lt_of_bit hc (by simpa using hb)) h0
theorem Ind.uniq {ks : List Nat} (h : Ind ks) {c d : Nat} (hc : c < 2 ^ ks.length) (hd : d < 2 ^ ks.length) (e : lin ks c ks.length = lin ks d ks.length) : c = d := by
  apply eq_of_xor
  refine h _ (Nat.xor_lt_two_pow hc hd) ?_
  rw [lin_xor, e, Nat.xor_self]

theorem low_lt {d W : Nat} (h0 : d ≠ 0) (h : d < 2 ^ W) : low d < W := by
  rcases Nat.lt_or_ge (low d) W with h1 | h1
  · exact h1
  · have h2 : d < 2 ^ low d := Nat.lt_of_lt_of_le h (Nat.pow_le_pow_right (by decide) h1)
    have := low_bit h0
    rw [Nat.testBit_lt_two_pow h2] at this
    cases this
theorem shift_low {c W i : Nat} (h : i < W) : (c <<< W).testBit i = false := by
  rw [Nat.testBit_shiftLeft]
  simp; omega
theorem shift_high (c W i : Nat) : (c <<< W).testBit (W + i) = c.testBit i := by
  rw [Nat.testBit_shiftLeft]
  simp
/-- The xor of rows with a mark each. -/
theorem lin_mark {ks R : List Nat} {P : Nat → Nat} {W : Nat} (hP : ∀ x y, P (x ^^^ y) = P x ^^^ P y) (c : Nat) :
    ∀ n, (∀ i, i < n → R.getD i 0 = P (ks.getD i 0) ^^^ 2 ^ (W + i)) → lin R c n = P (lin ks c n) ^^^ ((c % 2 ^ n) <<< W)
  | 0, _ => by
    have h0 : P 0 = 0 := by have := hP 0 0; simpa using this
    simp [lin, h0, Nat.mod_one]
  | n + 1, h => by
    have h0 : P 0 = 0 := by have := hP 0 0; simpa using this
    simp only [lin]
    rw [lin_mark hP c n fun i hi => h i (by omega), h n (by omega), hP]
    have hm : (c % 2 ^ (n + 1)) <<< W = ((c % 2 ^ n) <<< W) ^^^ (if c.testBit n = true then 2 ^ (W + n) else 0) := by
      apply Nat.eq_of_testBit_eq
      intro i
      rw [Nat.testBit_xor, Nat.testBit_shiftLeft, Nat.testBit_shiftLeft, Nat.testBit_mod_two_pow, Nat.testBit_mod_two_pow]
      by_cases h1 : i < W
      · have : decide (i ≥ W) = false := by simp; omega
        rw [this]
        split
        · rw [Nat.testBit_two_pow]; simp; omega
        · simp
      · obtain ⟨j, rfl⟩ : ∃ j, i = W + j := ⟨i - W, by omega⟩
        rw [Nat.add_sub_cancel_left]
        have : decide (W + j ≥ W) = true := by simp
        rw [this]
        by_cases h2 : j = n
        · subst h2
          split <;> rename_i hb <;> simp [hb]
        · have h3 : (2 ^ (W + n)).testBit (W + j) = false := by rw [Nat.testBit_two_pow]; simp; omega
          have h4 : decide (j < n + 1) = decide (j < n) := by by_cases h5 : j < n <;> simp [h5] <;> omega
          rw [h4]
          split
          · rw [h3]; simp
          · simp
    rw [hm]
    by_cases hb : c.testBit n = true
    · simp only [hb, if_true]
      generalize P (lin ks c n) = x
      generalize P (ks.getD n 0) = y
      generalize (c % 2 ^ n) <<< W = z
      generalize 2 ^ (W + n) = u
      apply Nat.eq_of_testBit_eq
      intro i
      simp only [Nat.testBit_xor]
      cases x.testBit i <;> cases y.testBit i <;> cases z.testBit i <;> cases u.testBit i <;> rfl
    · simp [hb, h0]
/-- A row that is the xor of a choice is left with the choice's marks. -/
theorem mark_red {ks R B : List Nat} {P : Nat → Nat} {W : Nat} (hP : ∀ x y, P (x ^^^ y) = P x ^^^ P y) (hlt : ∀ x, Sp ks x → P x < 2 ^ W) (hinj : ∀ x, Sp ks x → P x = 0 → x = 0) (hI : Ind ks)
    (hR : R.length = ks.length) (hRi : ∀ i, i < ks.length → R.getD i 0 = P (ks.getD i 0) ^^^ 2 ^ (W + i)) (hB : Tri B) (hs : ∀ x, Sp B x ↔ Sp R x) {c : Nat} (hc : c < 2 ^ ks.length) :
    red B (P (lin ks c ks.length)) = c <<< W := by
  have hlin := fun d => lin_mark (ks := ks) (R := R) (W := W) hP d ks.length hRi
  have hlows : ∀ b ∈ B, low b < W := fun b hb => by
    obtain ⟨d, hd, he⟩ := lin_of_sp ((hs b).1 (.of_mem hb))
    rw [hR] at hd he
    rw [hlin d, Nat.mod_eq_of_lt hd] at he
    have hsp := sp_lin ks d ks.length (Nat.le_refl _)
    have hne : P (lin ks d ks.length) ≠ 0 := fun e => by
      have h1 := hI d hd (hinj _ hsp e)
      subst h1
      rw [e] at he
      simp at he
      exact hB.1 b hb he.symm
    have h2 := low_lt hne (hlt _ hsp)
    have h3 : b.testBit (low (P (lin ks d ks.length))) = true := by rw [← he, Nat.testBit_xor, low_bit hne, shift_low h2]; rfl
    exact Nat.lt_of_le_of_lt (low_le h3) h2
  obtain ⟨h1, h2⟩ := tri_red hB (P (lin ks c ks.length))
  have h3 : Sp B (P (lin ks c ks.length) ^^^ c <<< W) := by
    refine (hs _).2 ?_
    have := hlin c
    rw [Nat.mod_eq_of_lt hc] at this
    rw [← this]
    exact sp_lin R c ks.length (by omega)
  apply eq_of_xor
  refine tri_none hB ?_ fun b hb => ?_
  · have := h2.xor h3
    rwa [xor_cancel] at this
  · rw [Nat.testBit_xor, h1 b hb, shift_low (hlows b hb)]; rfl
/-- .. and one that is none has a bit ahead of the marks. -/
theorem mark_none {ks R B : List Nat} {W : Nat} (hlt : ∀ x, Sp ks x → x < 2 ^ W) (hR : R.length = ks.length) (hRi : ∀ i, i < ks.length → R.getD i 0 = ks.getD i 0 ^^^ 2 ^ (W + i)) (hB : Tri B) (hs : ∀ x, Sp B x ↔ Sp R x)
    {v : Nat} (hv : v < 2 ^ W) (hn : ¬ Sp ks v) : red B v ≠ 0 ∧ low (red B v) < W := by
  have hlin := fun d => lin_mark (ks := ks) (R := R) (P := fun x => x) (W := W) (fun _ _ => rfl) d ks.length hRi
  obtain ⟨d, hd, he⟩ := lin_of_sp ((hs _).1 (tri_red hB v).2)
  rw [hR] at hd he
  rw [hlin d, Nat.mod_eq_of_lt hd] at he
  have hsp := sp_lin ks d ks.length (Nat.le_refl _)
  have hne : v ^^^ lin ks d ks.length ≠ 0 := fun e => hn (by rw [eq_of_xor e]; exact hsp)
  have h2 := low_lt hne (Nat.xor_lt_two_pow hv (hlt _ hsp))
  have h3 : red B v = (v ^^^ lin ks d ks.length) ^^^ d <<< W := by
    rw [Nat.xor_assoc, he, ← Nat.xor_assoc, Nat.xor_self, Nat.zero_xor]
  have h4 : (red B v).testBit (low (v ^^^ lin ks d ks.length)) = true := by rw [h3, Nat.testBit_xor, low_bit hne, shift_low h2]; rfl
  exact ⟨ne_of_bit h4, Nat.lt_of_le_of_lt (low_le h4) h2⟩

/-- The bits fs of a number, one behind the other. -/
def proj (fs : List Nat) (x : Nat) : Nat → Nat
  | 0 => 0
  | n + 1 => proj fs x n ^^^ (if x.testBit (fs.getD n 0) = true then 2 ^ n else 0)
theorem proj_bit (fs : List Nat) (x j : Nat) : ∀ n, (proj fs x n).testBit j = (decide (j < n) && x.testBit (fs.getD j 0))
  | 0 => by simp [proj]
  | n + 1 => by
    simp only [proj]
    rw [Nat.testBit_xor, proj_bit fs x j n]
    by_cases h1 : j = n
    · subst h1
      have h0 : decide (j < j) = false := by simp
      have h2 : decide (j < j + 1) = true := by simp
      rw [h0, h2]
      generalize x.testBit (fs.getD j 0) = bb
      cases bb <;> simp
    · have h2 : decide (j < n + 1) = decide (j < n) := by by_cases h5 : j < n <;> simp [h5] <;> omega
      rw [h2]
      split
      · rw [Nat.testBit_two_pow]
        have : decide (n = j) = false := by simp; omega
        rw [this]; simp
      · simp
theorem proj_xor (fs : List Nat) (n x y : Nat) : proj fs (x ^^^ y) n = proj fs x n ^^^ proj fs y n := by
  apply Nat.eq_of_testBit_eq
  intro j
  rw [Nat.testBit_xor, proj_bit, proj_bit, proj_bit, Nat.testBit_xor]
  cases decide (j < n) <;> cases x.testBit (fs.getD j 0) <;> cases y.testBit (fs.getD j 0) <;> rfl
theorem proj_lt (fs : List Nat) (x n : Nat) : proj fs x n < 2 ^ n := by
  apply Nat.lt_pow_two_of_testBit
  intro j hj
  rw [proj_bit]
  simp; omega
theorem proj_inj {B : List Nat} (hB : Tri B) {fs : List Nat} (hf : fs = B.map low) {x : Nat} (hx : Sp B x) (h : proj fs x B.length = 0) : x = 0 := by
  refine tri_none hB hx fun b hb => ?_
  obtain ⟨j, hj, rfl⟩ := List.getElem_of_mem hb
  have h1 := proj_bit fs x j B.length
  rw [h, hf] at h1
  simpa [hj, List.getD_eq_getElem?_getD, List.getElem?_eq_getElem hj] using h1.symm
end Go.Proofs.YtnjdldbdkafnaaaGreatDoor.Ech
