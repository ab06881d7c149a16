/-
  Plain mathematics of a basis of rows of bits, the rows being numbers: what is left of a row, one more row, the span, and that a basis whose lowest bits rise and stand in no other row is one. Of no program, no condition.
  Contracts of words.Get and bucketlineref01.Get at every int: for every row of at most 2^20 words.
  Rows of words as numbers, and what echelon's calls and the reference's tell of rows, on plain lists: the two agree on a basis. Of no program; words below 2^64.
-/
import Derived.Test.YtmdmipojbeppiaaGreatDoorM1
namespace Go.Proofs.YtmdmipojbeppiaaGreatDoor.Ech

def lowF : Nat → Nat → Nat
  | 0, _ => 0
  | f + 1, x => if x % 2 = 1 then 0 else lowF f (x / 2) + 1
/-- The lowest bit of a number that is not 0. -/
def low (x : Nat) : Nat := lowF x x
theorem lowF_spec : ∀ f x, x ≠ 0 → x ≤ f → x.testBit (lowF f x) = true ∧ ∀ j, j < lowF f x → x.testBit j = false
  | 0, x, h, hf => absurd (Nat.le_zero.1 hf) h
  | f + 1, x, h, hf => by
    unfold lowF
    by_cases e : x % 2 = 1
    · rw [if_pos e]
      exact ⟨by rw [Nat.testBit_zero]; simpa using e, fun j hj => by omega⟩
    · rw [if_neg e]
      obtain ⟨h1, h2⟩ := lowF_spec f (x / 2) (by omega) (by omega)
      refine ⟨by rw [Nat.testBit_succ]; exact h1, fun j hj => ?_⟩
      cases j with
      | zero => rw [Nat.testBit_zero]; simpa using e
      | succ j => rw [Nat.testBit_succ]; exact h2 j (by omega)
theorem low_bit {x : Nat} (h : x ≠ 0) : x.testBit (low x) = true := (lowF_spec x x h (Nat.le_refl _)).1
theorem low_none {x j : Nat} (h : x ≠ 0) (hj : j < low x) : x.testBit j = false := (lowF_spec x x h (Nat.le_refl _)).2 j hj
theorem ne_of_bit {x i : Nat} (h : x.testBit i = true) : x ≠ 0 := by
  rintro rfl
  simp at h
theorem low_unique {x i : Nat} (h : x.testBit i = true) (h2 : ∀ j, j < i → x.testBit j = false) : low x = i := by
  have h0 := ne_of_bit h
  rcases Nat.lt_trichotomy (low x) i with h1 | h1 | h1
  · have := h2 _ h1; rw [low_bit h0] at this; cases this
  · exact h1
  · have := low_none h0 h1; rw [h] at this; cases this
theorem low_le {x i : Nat} (h : x.testBit i = true) : low x ≤ i := by
  rcases Nat.lt_or_ge i (low x) with h1 | h1
  · have := low_none (ne_of_bit h) h1; rw [h] at this; cases this
  · exact h1

theorem xor_cancel (b p q : Nat) : (b ^^^ p) ^^^ (b ^^^ q) = p ^^^ q := by
  apply Nat.eq_of_testBit_eq
  intro i
  simp only [Nat.testBit_xor]
  cases b.testBit i <;> cases p.testBit i <;> cases q.testBit i <;> rfl
theorem xor_left (b p q : Nat) : (b ^^^ p) ^^^ q = b ^^^ (p ^^^ q) := Nat.xor_assoc b p q
theorem xor_mid (b p q : Nat) : p ^^^ (b ^^^ q) = b ^^^ (p ^^^ q) := by
  apply Nat.eq_of_testBit_eq
  intro i
  simp only [Nat.testBit_xor]
  cases b.testBit i <;> cases p.testBit i <;> cases q.testBit i <;> rfl
theorem eq_of_xor {a b : Nat} (h : a ^^^ b = 0) : a = b := by
  apply Nat.eq_of_testBit_eq
  intro i
  have := congrArg (fun x => x.testBit i) h
  simp only [Nat.testBit_xor, Nat.zero_testBit] at this
  revert this
  cases a.testBit i <;> cases b.testBit i <;> simp
theorem xor_back (a b : Nat) : (a ^^^ b) ^^^ b = a := by rw [Nat.xor_assoc, Nat.xor_self, Nat.xor_zero]

/-- What is left of a row. -/
def red (B : List Nat) (v : Nat) : Nat := B.foldl (fun r b => if b ≠ 0 ∧ r.testBit (low b) = true then r ^^^ b else r) v
/-- The xor of those rows whose lowest bit x has. -/
def comb : List Nat → Nat → Nat
  | [], _ => 0
  | b :: B, x => if x.testBit (low b) = true then b ^^^ comb B x else comb B x
/-- What a basis is. -/
def Red (B : List Nat) : Prop := (∀ b ∈ B, b ≠ 0) ∧ B.Pairwise fun a b => low a < low b ∧ a.testBit (low b) = false
/-- What a span has: the xors of some of its rows. -/
def Sp (B : List Nat) (x : Nat) : Prop := ∃ l : List Nat, (∀ b ∈ l, b ∈ B) ∧ l.foldr (fun b a => b ^^^ a) 0 = x
theorem Sp.zero {B : List Nat} : Sp B 0 := ⟨[], (fun _ h => by cases h), rfl⟩
theorem Sp.add {B : List Nat} {b x : Nat} (hb : b ∈ B) (h : Sp B x) : Sp B (b ^^^ x) := by
  obtain ⟨l, h1, rfl⟩ := h
  refine ⟨b :: l, fun c hc => ?_, rfl⟩
  rcases List.mem_cons.1 hc with e | hc
  · rw [e]; exact hb
  · exact h1 c hc
theorem Sp.ind {B : List Nat} {P : Nat → Prop} (h0 : P 0) (hs : ∀ b x, b ∈ B → P x → P (b ^^^ x)) {x : Nat} (h : Sp B x) : P x := by
  obtain ⟨l, h1, rfl⟩ := h
  induction l with
  | nil => exact h0
  | cons b l ih => exact hs b _ (h1 b List.mem_cons_self) (ih fun c hc => h1 c (List.mem_cons_of_mem _ hc))

theorem Sp.of_mem {B : List Nat} {b : Nat} (h : b ∈ B) : Sp B b := by
  have := Sp.add h Sp.zero
  rwa [Nat.xor_zero] at this
theorem Sp.xor {B : List Nat} {x y : Nat} (h : Sp B x) (k : Sp B y) : Sp B (x ^^^ y) := by
  refine Sp.ind (P := fun x => Sp B (x ^^^ y)) (by rw [Nat.zero_xor]; exact k) (fun b x hb ih => ?_) h
  rw [xor_left]
  exact .add hb ih
theorem Sp.of {A B : List Nat} {x : Nat} (h : ∀ a ∈ A, Sp B a) (k : Sp A x) : Sp B x := by
  exact Sp.ind (P := fun x => Sp B x) .zero (fun b x hb ih => (h _ hb).xor ih) k
theorem Sp.mono {A B : List Nat} {x : Nat} (h : ∀ a ∈ A, a ∈ B) (k : Sp A x) : Sp B x := k.of fun a ha => .of_mem (h a ha)

theorem comb_xor (B : List Nat) (x y : Nat) : comb B (x ^^^ y) = comb B x ^^^ comb B y := by
  induction B with
  | nil => simp [comb]
  | cons b B ih =>
    simp only [comb, Nat.testBit_xor, ih]
    cases x.testBit (low b) <;> cases y.testBit (low b)
    · simp
    · simp [xor_mid]
    · simp [xor_left]
    · simp only [Bool.xor_self, if_true]
      rw [xor_cancel]
      rfl
theorem comb_none {B : List Nat} {x : Nat} (h : ∀ b ∈ B, x.testBit (low b) = false) : comb B x = 0 := by
  induction B with
  | nil => rfl
  | cons b B ih =>
    simp only [comb]
    rw [h b List.mem_cons_self, if_neg (by decide)]
    exact ih fun b hb => h b (List.mem_cons_of_mem _ hb)
theorem comb_bit_none {B : List Nat} {x i : Nat} (h : ∀ b ∈ B, b.testBit i = false) : (comb B x).testBit i = false := by
  induction B with
  | nil => simp [comb]
  | cons b B ih =>
    have h1 := h b List.mem_cons_self
    have h2 := ih fun b hb => h b (List.mem_cons_of_mem _ hb)
    simp only [comb]
    split
    · rw [Nat.testBit_xor, h1, h2]; rfl
    · exact h2
theorem sp_comb (B : List Nat) (x : Nat) : Sp B (comb B x) := by
  induction B with
  | nil => exact .zero
  | cons b B ih =>
    have ih' : Sp (b :: B) (comb B x) := ih.mono fun a ha => List.mem_cons_of_mem _ ha
    simp only [comb]
    split
    · exact .add List.mem_cons_self ih'
    · exact ih'

theorem Red.tail {b : Nat} {B : List Nat} (h : Red (b :: B)) : Red B := ⟨fun a ha => h.1 a (List.mem_cons_of_mem _ ha), (List.pairwise_cons.1 h.2).2⟩
theorem Red.head {b : Nat} {B : List Nat} (h : Red (b :: B)) : ∀ a ∈ B, low b < low a ∧ b.testBit (low a) = false := (List.pairwise_cons.1 h.2).1
theorem Red.low_lt {b : Nat} {B : List Nat} (h : Red (b :: B)) {j : Nat} (hj : j ≤ low b) : ∀ a ∈ B, a.testBit j = false := fun a ha =>
  low_none (h.1 a (List.mem_cons_of_mem _ ha)) (Nat.lt_of_le_of_lt hj (h.head a ha).1)
theorem Red.nil : Red [] := ⟨(fun _ h => by cases h), List.Pairwise.nil⟩
theorem Red.two : ∀ {B : List Nat}, Red B → ∀ {a c : Nat}, a ∈ B → c ∈ B → a ≠ c → low a ≠ low c ∧ a.testBit (low c) = false
  | [], _, _, _, ha, _, _ => by cases ha
  | b :: B, h, a, c, ha, hc, hne => by
    rcases List.mem_cons.1 ha with ea | ha'
    · rcases List.mem_cons.1 hc with ec | hc'
      · exact absurd (ea.trans ec.symm) hne
      · have := h.head c hc'
        rw [ea]
        exact ⟨by omega, this.2⟩
    · rcases List.mem_cons.1 hc with ec | hc'
      · have := h.head a ha'
        rw [ec]
        exact ⟨by omega, h.low_lt (Nat.le_refl _) a ha'⟩
      · exact h.tail.two ha' hc' hne
theorem comb_mem : ∀ {B : List Nat}, Red B → ∀ {b : Nat}, b ∈ B → comb B b = b
  | [], _, _, hb => by cases hb
  | c :: B, h, b, hb => by
    simp only [comb]
    rcases List.mem_cons.1 hb with e | hb'
    · rw [e, if_pos (low_bit (h.1 c List.mem_cons_self)), comb_none (fun a ha => (h.head a ha).2), Nat.xor_zero]
    · rw [h.low_lt (Nat.le_refl _) b hb', if_neg (by decide)]
      exact comb_mem h.tail hb'
theorem comb_sp {B : List Nat} (h : Red B) {x : Nat} (k : Sp B x) : comb B x = x := by
  refine Sp.ind (P := fun x => comb B x = x) (comb_none fun b _ => Nat.zero_testBit _) (fun b x hb ih => ?_) k
  rw [comb_xor, comb_mem h hb, ih]
theorem comb_bit : ∀ {B : List Nat}, Red B → ∀ {b : Nat} (x : Nat), b ∈ B → (comb B x).testBit (low b) = x.testBit (low b)
  | [], _, _, _, hb => by cases hb
  | c :: B, h, b, x, hb => by
    simp only [comb]
    rcases List.mem_cons.1 hb with e | hb'
    · have h1 := comb_bit_none (x := x) (h.low_lt (Nat.le_refl (low c)))
      rw [e]
      split
      · rename_i hx; rw [Nat.testBit_xor, h1, low_bit (h.1 c List.mem_cons_self), hx]; rfl
      · rename_i hx; rw [h1]; simpa using hx
    · have ih := comb_bit h.tail x hb'
      split
      · rw [Nat.testBit_xor, (h.head b hb').2, ih]; simp
      · exact ih
theorem red_eq : ∀ {B : List Nat}, Red B → ∀ v, red B v = v ^^^ comb B v
  | [], _, v => by simp [red, comb]
  | c :: B, h, v => by
    show red B _ = _
    rw [red_eq h.tail]
    simp only [comb]
    by_cases hv : v.testBit (low c) = true
    · rw [if_pos ⟨h.1 c List.mem_cons_self, hv⟩, if_pos hv, comb_xor, comb_none (fun a ha => (h.head a ha).2), Nat.xor_zero, Nat.xor_assoc]
    · rw [if_neg (fun k => hv k.2), if_neg hv]
theorem red_low {B : List Nat} (h : Red B) (v : Nat) {b : Nat} (hb : b ∈ B) : (red B v).testBit (low b) = false := by
  rw [red_eq h, Nat.testBit_xor, comb_bit h v hb]
  cases v.testBit (low b) <;> rfl
theorem red_zero {B : List Nat} (h : Red B) (v : Nat) : red B v = 0 ↔ Sp B v := by
  rw [red_eq h]
  constructor
  · intro k
    rw [eq_of_xor k]
    exact sp_comb B v
  · intro k
    rw [comb_sp h k, Nat.xor_self]

/-- A row with r's lowest bit taken away. -/
def upd (r b : Nat) : Nat := if b.testBit (low r) = true then b ^^^ r else b
/-- r ahead of the first one whose lowest bit is greater. -/
def put (r : Nat) : List Nat → List Nat
  | [] => [r]
  | b :: B => if low r < low b then r :: b :: B else b :: put r B
def ins (B : List Nat) (v : Nat) : List Nat := if red B v = 0 then B else put (red B v) (B.map (upd (red B v)))

theorem mem_put {r x : Nat} : ∀ {B : List Nat}, x ∈ put r B ↔ x = r ∨ x ∈ B
  | [] => by simp [put]
  | b :: B => by
    simp only [put]
    split
    · simp
    · rw [List.mem_cons, mem_put, List.mem_cons]
      constructor
      · rintro (h | h | h)
        · exact .inr (.inl h)
        · exact .inl h
        · exact .inr (.inr h)
      · rintro (h | h | h)
        · exact .inr (.inl h)
        · exact .inl h
        · exact .inr (.inr h)
theorem put_length (r : Nat) : ∀ B : List Nat, (put r B).length = B.length + 1
  | [] => rfl
  | b :: B => by
    simp only [put]
    split
    · rfl
    · simp [put_length r B]
theorem put_pairs {r : Nat} : ∀ {C : List Nat}, (C.Pairwise fun a b => low a < low b ∧ a.testBit (low b) = false) → (∀ c ∈ C, low c ≠ low r ∧ c.testBit (low r) = false ∧ r.testBit (low c) = false) →
    (put r C).Pairwise fun a b => low a < low b ∧ a.testBit (low b) = false
  | [], _, _ => by simp [put]
  | c :: C, h, k => by
    obtain ⟨h1, h2⟩ := List.pairwise_cons.1 h
    simp only [put]
    split
    · rename_i hlt
      refine List.pairwise_cons.2 ⟨fun a ha => ?_, h⟩
      refine ⟨?_, (k a ha).2.2⟩
      rcases List.mem_cons.1 ha with e | ha'
      · rw [e]; exact hlt
      · have := (h1 a ha').1; omega
    · rename_i hlt
      have hc := k c List.mem_cons_self
      refine List.pairwise_cons.2 ⟨fun a ha => ?_, put_pairs h2 fun a ha => k a (List.mem_cons_of_mem _ ha)⟩
      rcases mem_put.1 ha with e | ha'
      · rw [e]; exact ⟨by omega, hc.2.1⟩
      · exact h1 a ha'

theorem upd_low {B : List Nat} (h : Red B) {v b : Nat} (hr : red B v ≠ 0) (hb : b ∈ B) : low (upd (red B v) b) = low b ∧ upd (red B v) b ≠ 0 := by
  have hl := red_low h v hb
  have hbn := h.1 b hb
  unfold upd
  split
  · rename_i hf
    have h1 : low b < low (red B v) := by
      have h2 := low_le hf
      have h3 : low b ≠ low (red B v) := by
        intro e
        rw [e, low_bit hr] at hl
        cases hl
      omega
    have h4 : (b ^^^ red B v).testBit (low b) = true := by rw [Nat.testBit_xor, low_bit hbn, hl]; rfl
    exact ⟨low_unique h4 fun j hj => by rw [Nat.testBit_xor, low_none hbn hj, low_none hr (by omega)]; rfl, ne_of_bit h4⟩
  · exact ⟨rfl, hbn⟩
theorem upd_bit {B : List Nat} (h : Red B) {v b c : Nat} (hc : c ∈ B) : (upd (red B v) b).testBit (low c) = b.testBit (low c) := by
  unfold upd
  split
  · rw [Nat.testBit_xor, red_low h v hc]; simp
  · rfl
theorem upd_own {r b : Nat} (hr : r ≠ 0) : (upd r b).testBit (low r) = false := by
  unfold upd
  split
  · rename_i hf; rw [Nat.testBit_xor, hf, low_bit hr]; rfl
  · rename_i hf; simpa using hf
theorem Red.ins {B : List Nat} (h : Red B) (v : Nat) : Red (ins B v) := by
  unfold Ech.ins
  split
  · exact h
  · rename_i hr
    refine ⟨fun x hx => ?_, put_pairs ?_ ?_⟩
    · rcases mem_put.1 hx with e | hx'
      · rw [e]; exact hr
      · obtain ⟨b, hb, rfl⟩ := List.mem_map.1 hx'
        exact (upd_low h hr hb).2
    · rw [List.pairwise_map]
      refine List.Pairwise.imp_of_mem ?_ h.2
      intro a b ha hb hab
      rw [(upd_low h hr ha).1, (upd_low h hr hb).1, upd_bit h hb]
      exact hab
    · intro c hc
      obtain ⟨b, hb, rfl⟩ := List.mem_map.1 hc
      have hl := red_low h v hb
      rw [(upd_low h hr hb).1]
      refine ⟨fun e => ?_, upd_own hr, hl⟩
      rw [e, low_bit hr] at hl
      cases hl
theorem upd_back (r b : Nat) : b = upd r b ∨ b = r ^^^ upd r b := by
  unfold upd
  split
  · right
    rw [xor_mid, Nat.xor_self, Nat.xor_zero]
  · exact .inl rfl
theorem sp_ins {B : List Nat} (h : Red B) (v x : Nat) : Sp (ins B v) x ↔ Sp (v :: B) x := by
  have hc : Sp (v :: B) (comb B v) := (sp_comb B v).mono fun a ha => List.mem_cons_of_mem _ ha
  have hrs : Sp (v :: B) (red B v) := by rw [red_eq h]; exact (Sp.of_mem List.mem_cons_self).xor hc
  unfold ins
  split
  · rename_i hr
    have hv := (red_zero h v).1 hr
    exact ⟨fun k => k.mono fun a ha => List.mem_cons_of_mem _ ha, fun k => k.of fun a ha => by
      rcases List.mem_cons.1 ha with e | ha'
      · rw [e]; exact hv
      · exact .of_mem ha'⟩
  · rename_i hr
    have hB : ∀ b ∈ B, Sp (put (red B v) (B.map (upd (red B v)))) b := fun b hb => by
      have h1 : Sp (put (red B v) (B.map (upd (red B v)))) (upd (red B v) b) := .of_mem (mem_put.2 (.inr (List.mem_map.2 ⟨b, hb, rfl⟩)))
      rcases upd_back (red B v) b with e | e
      · rw [e]; exact h1
      · rw [e]; exact (Sp.of_mem (mem_put.2 (.inl rfl))).xor h1
    constructor
    · intro k
      refine k.of fun a ha => ?_
      rcases mem_put.1 ha with e | ha'
      · rw [e]; exact hrs
      · obtain ⟨b, hb, rfl⟩ := List.mem_map.1 ha'
        have hbs : Sp (v :: B) b := .of_mem (List.mem_cons_of_mem _ hb)
        unfold upd
        split
        · exact hbs.xor hrs
        · exact hbs
    · intro k
      refine k.of fun a ha => ?_
      rcases List.mem_cons.1 ha with e | ha'
      · have hv : v = red B v ^^^ comb B v := by rw [red_eq h, xor_back]
        have hx := (Sp.of_mem (mem_put.2 (.inl rfl))).xor ((sp_comb B v).of hB)
        rw [← hv] at hx
        rw [e]
        exact hx
      · exact hB a ha'
theorem ins_length (B : List Nat) (v : Nat) : (ins B v).length ≤ B.length + 1 := by
  unfold ins
  split
  · omega
  · rw [put_length, List.length_map]; exact Nat.le_refl _

def basis (l : List Nat) : List Nat := l.foldl ins []
theorem foldl_ins : ∀ (l B : List Nat), Red B → Red (l.foldl ins B) ∧ (∀ x, Sp (l.foldl ins B) x ↔ Sp (B ++ l) x) ∧ (l.foldl ins B).length ≤ B.length + l.length
  | [], B, h => ⟨h, fun x => by simp, by simp⟩
  | v :: l, B, h => by
    obtain ⟨h1, h2, h3⟩ := foldl_ins l (ins B v) (h.ins v)
    refine ⟨h1, fun x => ?_, ?_⟩
    · show Sp (l.foldl ins (ins B v)) x ↔ _
      rw [h2]
      constructor
      · intro k
        refine k.of fun a ha => ?_
        rcases List.mem_append.1 ha with ha | ha
        · refine ((sp_ins h v a).1 (.of_mem ha)).mono fun c hc => ?_
          rcases List.mem_cons.1 hc with e | hc
          · rw [e]; simp
          · simp [hc]
        · exact .of_mem (by simp [ha])
      · intro k
        refine k.of fun a ha => ?_
        rcases List.mem_append.1 ha with ha | ha
        · exact ((sp_ins h v a).2 (.of_mem (List.mem_cons_of_mem _ ha))).mono fun c hc => List.mem_append_left _ hc
        · rcases List.mem_cons.1 ha with e | ha
          · rw [e]
            exact ((sp_ins h v v).2 (.of_mem List.mem_cons_self)).mono fun c hc => List.mem_append_left _ hc
          · exact .of_mem (List.mem_append_right _ ha)
    · show (l.foldl ins (ins B v)).length ≤ _
      have := ins_length B v
      simp only [List.length_cons]
      omega
theorem red_basis (l : List Nat) : Red (basis l) := (foldl_ins l [] .nil).1
theorem sp_basis (l : List Nat) (x : Nat) : Sp (basis l) x ↔ Sp l x := (foldl_ins l [] .nil).2.1 x
theorem basis_length (l : List Nat) : (basis l).length ≤ l.length := by
  have h : (l.foldl ins []).length ≤ l.length := by simpa using (foldl_ins l [] .nil).2.2
  exact h

theorem low_comb : ∀ {A : List Nat}, Red A → ∀ {x : Nat}, comb A x ≠ 0 → ∃ a ∈ A, low (comb A x) = low a
  | [], _, x, h => by simp [comb] at h
  | c :: A, h, x, hx => by
    simp only [comb] at hx ⊢
    split
    · have hn := h.1 c List.mem_cons_self
      refine ⟨c, List.mem_cons_self, low_unique ?_ fun j hj => ?_⟩
      · rw [Nat.testBit_xor, low_bit hn, comb_bit_none (h.low_lt (Nat.le_refl _))]; rfl
      · rw [Nat.testBit_xor, low_none hn hj, comb_bit_none (h.low_lt (Nat.le_of_lt hj))]; rfl
    · rename_i hb
      rw [if_neg hb] at hx
      obtain ⟨a, ha, e⟩ := low_comb h.tail hx
      exact ⟨a, List.mem_cons_of_mem _ ha, e⟩
theorem low_sp {A : List Nat} (h : Red A) {x : Nat} (k : Sp A x) (hx : x ≠ 0) : ∃ a ∈ A, low x = low a := by
  have e := comb_sp h k
  have := low_comb h (x := x) (by rw [e]; exact hx)
  rwa [e] at this
theorem uniq_sub {A B : List Nat} (hA : Red A) (hB : Red B) (hs : ∀ x, Sp A x ↔ Sp B x) : ∀ a ∈ A, a ∈ B := by
  intro a ha
  obtain ⟨b, hb, hab⟩ := low_sp hB ((hs a).1 (.of_mem ha)) (hA.1 a ha)
  have hy : Sp A (a ^^^ b) := (Sp.of_mem ha).xor ((hs b).2 (.of_mem hb))
  have h0 : comb A (a ^^^ b) = 0 := by
    refine comb_none fun c hc => ?_
    rw [Nat.testBit_xor]
    by_cases e : a = c
    · subst e
      rw [low_bit (hA.1 a ha), hab, low_bit (hB.1 b hb)]; rfl
    · obtain ⟨d, hd, hcd⟩ := low_sp hB ((hs c).1 (.of_mem hc)) (hA.1 c hc)
      have h1 := hA.two ha hc e
      have hne : b ≠ d := by
        rintro rfl
        exact h1.1 (hab.trans hcd.symm)
      rw [h1.2, hcd, (hB.two hb hd hne).2]; rfl
  rw [comb_sp hA hy] at h0
  rw [eq_of_xor h0]
  exact hb
theorem eq_of_rise : ∀ {A B : List Nat}, Red A → Red B → (∀ x, x ∈ A ↔ x ∈ B) → A = B
  | [], [], _, _, _ => rfl
  | [], b :: B, _, _, h => by have := (h b).2 List.mem_cons_self; cases this
  | a :: A, [], _, _, h => by have := (h a).1 List.mem_cons_self; cases this
  | a :: A, b :: B, hA, hB, h => by
    have e : a = b := by
      rcases List.mem_cons.1 ((h a).1 List.mem_cons_self) with e | h1
      · exact e
      · rcases List.mem_cons.1 ((h b).2 List.mem_cons_self) with e | h2
        · exact e.symm
        · have h3 := (hB.head a h1).1
          have h4 := (hA.head b h2).1
          omega
    subst e
    have hna : a ∉ A := fun k => by have := (hA.head a k).1; omega
    have hnb : a ∉ B := fun k => by have := (hB.head a k).1; omega
    rw [eq_of_rise hA.tail hB.tail fun x => ?_]
    constructor
    · intro k
      rcases List.mem_cons.1 ((h x).1 (List.mem_cons_of_mem _ k)) with e | k'
      · rw [e] at k; exact absurd k hna
      · exact k'
    · intro k
      rcases List.mem_cons.1 ((h x).2 (List.mem_cons_of_mem _ k)) with e | k'
      · rw [e] at k; exact absurd k hnb
      · exact k'
/-- A basis is one. -/
theorem uniq {A B : List Nat} (hA : Red A) (hB : Red B) (hs : ∀ x, Sp A x ↔ Sp B x) : A = B :=
  eq_of_rise hA hB fun x => ⟨uniq_sub hA hB hs x, uniq_sub hB hA (fun y => (hs y).symm) x⟩
theorem basis_same {l m : List Nat} (h : ∀ x, x ∈ l ↔ x ∈ m) : basis l = basis m :=
  uniq (red_basis l) (red_basis m) fun x => by
    rw [sp_basis, sp_basis]
    exact ⟨fun k => k.mono fun a ha => (h a).1 ha, fun k => k.mono fun a ha => (h a).2 ha⟩
end Go.Proofs.YtmdmipojbeppiaaGreatDoor.Ech
namespace Go.Proofs.YtmdmipojbeppiaaGreatDoor
open Go.RowKit
set_option linter.unusedVariables false
set_option maxRecDepth 4000

/-- Bit i of a row, for every int. -/
def getI (xs : List Nat) (i : Int) : Bool := if i < 0 then false else getB xs i.toNat
theorem getI_out {xs : List Nat} {i : Int} (h : ¬ (0 ≤ i ∧ i / 64 < (xs.length : Int))) : getI xs i = false := by
  unfold getI
  split
  · rfl
  · exact getB_out xs _ (by omega)
theorem getI_in {xs : List Nat} {i : Int} (h : 0 ≤ i) : getI xs i = getB xs i.toNat := by
  unfold getI
  rw [if_neg (by omega)]
theorem get_any (a : Option Addr) (n c : Nat) (xs : List Nat) (i : Int) (w : World) (h : RowAt w a n xs) (hn : n ≤ 1048576) (hi : i ≤ 9223372036854775807) :
    Calls Tryz.prog 156 #[.slice a n c, .int .i64 i] w fun e w' => e = .returned (.bool (getI xs i)) ∧ ∃ d, w' = w.drewN d := by
  by_cases hin : 0 ≤ i ∧ i / 64 < (xs.length : Int)
  · rw [getI_in hin.1]
    exact get_in a n c xs i w h hin.1 hi (by rw [← h.1]; exact hin.2) (by omega)
  · rw [getI_out hin]
    exact get_out a n c i w hi (by rw [← h.1]; omega)
theorem rget_any (a : Option Addr) (n c : Nat) (xs : List Nat) (i : Int) (w : World) (h : RowAt w a n xs) (hn : n ≤ 1048576) (hi : i ≤ 9223372036854775807) :
    Calls Tryz.prog 48 #[.slice a n c, .int .i64 i] w fun e w' => e = .returned (.bool (getI xs i)) ∧ w' = w := by
  by_cases hin : 0 ≤ i ∧ i / 64 < (xs.length : Int)
  · rw [getI_in hin.1]
    exact rget_in a n c xs i w h hin.1 hi (by rw [← h.1]; exact hin.2) (by omega)
  · rw [getI_out hin]
    exact rget_out a n c i w hi (by rw [← h.1]; omega)
theorem getI_nat (xs : List Nat) (k : Nat) : getI xs (k : Int) = getB xs k := by rw [getI_in (by omega), Int.toNat_natCast]
theorem getN_any (a : Option Addr) (n c : Nat) (xs : List Nat) (k : Nat) (w : World) (h : RowAt w a n xs) (hn : n ≤ 1048576) (hk : k ≤ 9223372036854775807) :
    Calls Tryz.prog 156 #[.slice a n c, .int .i64 (k : Int)] w fun e w' => e = .returned (.bool (getB xs k)) ∧ Below w.heap.size w w' := by
  refine (get_any a n c xs k w h hn (by omega)).mono ?_
  rintro e w' ⟨rfl, d, rfl⟩
  rw [getI_nat]
  exact ⟨rfl, below_drewN (Below.refl _ _) d⟩
theorem rgetN_any (a : Option Addr) (n c : Nat) (xs : List Nat) (k : Nat) (w : World) (h : RowAt w a n xs) (hn : n ≤ 1048576) (hk : k ≤ 9223372036854775807) :
    Calls Tryz.prog 48 #[.slice a n c, .int .i64 (k : Int)] w fun e w' => e = .returned (.bool (getB xs k)) ∧ w' = w := by
  refine (rget_any a n c xs k w h hn (by omega)).mono ?_
  rintro e w' ⟨rfl, rfl⟩
  rw [getI_nat]
  exact ⟨rfl, rfl⟩
end Go.Proofs.YtmdmipojbeppiaaGreatDoor
namespace Go.Proofs.YtmdmipojbeppiaaGreatDoor
open Go.RowKit
set_option linter.unusedVariables false
set_option maxRecDepth 4000

/-- The bits of a row as one number. -/
def val : List Nat → Nat
  | [] => 0
  | x :: r => 2 ^ 64 * val r + x
theorem smalls.tail {x : Nat} {r : List Nat} (h : smalls (x :: r)) : smalls r := fun y hy => h y (List.mem_cons_of_mem _ hy)
theorem smalls.nil : smalls [] := fun _ h => by cases h
theorem val_bit : ∀ {xs : List Nat}, smalls xs → ∀ i, (val xs).testBit i = getB xs i
  | [], _, i => by simp [val, getB]
  | x :: r, h, i => by
    have hx : x < 2 ^ 64 := h x List.mem_cons_self
    rw [val, Nat.testBit_two_pow_mul_add _ hx]
    unfold getB
    by_cases hi : i < 64
    · rw [if_pos hi, show i / 64 = 0 by omega, show i % 64 = i by omega]; rfl
    · rw [if_neg hi, val_bit h.tail, getB, show i / 64 = (i - 64) / 64 + 1 by omega, show i % 64 = (i - 64) % 64 by omega]; rfl
theorem bit_xorL (a b : List Nat) (i : Nat) : getB (xorL a b) i = (getB a i ^^ getB b i) := by
  unfold getB
  rw [xorL_getD, Nat.testBit_xor]
theorem val_xor {a b : List Nat} (ha : smalls a) (hb : smalls b) : val (xorL a b) = val a ^^^ val b := by
  apply Nat.eq_of_testBit_eq
  intro i
  rw [val_bit (xorL_small ha hb), bit_xorL, Nat.testBit_xor, val_bit ha, val_bit hb]
theorem val_zero {xs : List Nat} : val xs = 0 ↔ ∀ x ∈ xs, x = 0 := by
  induction xs with
  | nil => simp [val]
  | cons x r ih =>
    rw [val]
    constructor
    · intro h y hy
      rcases List.mem_cons.1 hy with e | hy
      · omega
      · exact ih.1 (by omega) y hy
    · intro h
      have h0 := h x List.mem_cons_self
      have h1 := ih.2 fun y hy => h y (List.mem_cons_of_mem _ hy)
      omega
theorem firstI_look : ∀ (xs : List Nat), 0 ≤ firstI xs → ∃ k, k < xs.length ∧ (∀ j, j < k → xs.getD j 0 = 0) ∧ xs.getD k 0 ≠ 0 ∧ firstI xs = (k : Int) * 64 + Lib.ctz 64 (xs.getD k 0)
  | [], h => by simp [firstI] at h
  | x :: r, h => by
    by_cases hx : x = 0
    · have hr : 0 ≤ firstI r := by
        simp only [firstI, hx] at h
        split at h
        · omega
        · split at h
          · omega
          · omega
      obtain ⟨k, hk, hz, hne, he⟩ := firstI_look r hr
      have hz' : ∀ j, j < k + 1 → (x :: r).getD j 0 = 0 := by
        intro j hj
        cases j with
        | zero => simpa using hx
        | succ j => simpa using hz j (by omega)
      have hk' : k + 1 < (x :: r).length := by simpa using hk
      have hne' : (x :: r).getD (k + 1) 0 ≠ 0 := by simpa using hne
      exact ⟨k + 1, hk', hz', hne', firstI_at _ _ hk' hz' hne'⟩
    · have hk' : 0 < (x :: r).length := by simp
      have hne' : (x :: r).getD 0 0 ≠ 0 := by simpa using hx
      exact ⟨0, hk', fun j hj => by omega, hne', firstI_at _ _ hk' (fun j hj => by omega) hne'⟩
/-- The first bit of a row as the number's lowest one. -/
theorem firstI_val {xs : List Nat} (hs : smalls xs) : firstI xs = if val xs = 0 then -1 else (Ech.low (val xs) : Int) := by
  rcases firstI_cases xs with h | h
  · have h1 := val_zero.2 ((firstI_nonneg_iff xs).1 (by omega))
    rw [h, if_pos h1]
  · obtain ⟨k, hk, hz, hne, he⟩ := firstI_look xs h
    have hx := hs.get k
    have hc := ctz_lt (xs.getD k 0) hne hx
    have hb := ctz_bit (xs.getD k 0) hne hx
    have hl := fun j hj => ctz_low (xs.getD k 0) j hne hx hj
    generalize Lib.ctz 64 (xs.getD k 0) = t at *
    have h1 : (val xs).testBit (64 * k + t) = true := by rw [val_bit hs, getB_at xs k t hc]; exact hb
    have h2 : ∀ j, j < 64 * k + t → (val xs).testBit j = false := fun i hi => by
      rw [val_bit hs]
      unfold getB
      by_cases e : i / 64 < k
      · rw [hz _ e]; simp
      · rw [show i / 64 = k by omega]; exact hl _ (by omega)
    rw [if_neg (Ech.ne_of_bit h1), Ech.low_unique h1 h2, he]
    omega
theorem firstI_le {xs : List Nat} (hs : smalls xs) : firstI xs < 64 * (xs.length : Int) ∧ -1 ≤ firstI xs := by
  rcases firstI_cases xs with h | h
  · omega
  · obtain ⟨k, hk, hz, hne, he⟩ := firstI_look xs h
    have hc := ctz_lt (xs.getD k 0) hne (hs.get k)
    omega
theorem firstI_neg {xs : List Nat} (hs : smalls xs) : firstI xs < 0 ↔ val xs = 0 := by
  rw [firstI_val hs]
  split
  · rename_i h; simp [h]
  · rename_i h
    constructor
    · intro k; omega
    · intro k; exact absurd k h
theorem getI_val {xs ys : List Nat} (hx : smalls xs) (hy : smalls ys) : getI xs (firstI ys) = (decide (val ys ≠ 0) && (val xs).testBit (Ech.low (val ys))) := by
  rw [firstI_val hy]
  split
  · rename_i h; simp [h, getI]
  · rename_i h
    rw [getI_nat, val_bit hx]
    simp [h]
theorem getI_neg (xs : List Nat) (i : Int) (h : i < 0) : getI xs i = false := by unfold getI; rw [if_pos h]

/-- A row with what b's first bit takes. -/
def stepL (r b : List Nat) : List Nat := if getI r (firstI b) = true then xorL r b else r
def reduceL (B : List (List Nat)) (v : List Nat) : List Nat := B.foldl stepL v
theorem step_small {r b : List Nat} (hr : smalls r) (hb : smalls b) : smalls (stepL r b) := by
  unfold stepL
  split
  · exact xorL_small hr hb
  · exact hr
theorem step_val {r b : List Nat} (hr : smalls r) (hb : smalls b) : val (stepL r b) = if val b ≠ 0 ∧ (val r).testBit (Ech.low (val b)) = true then val r ^^^ val b else val r := by
  unfold stepL
  rw [getI_val hr hb]
  by_cases h1 : val b = 0
  · simp [h1]
  · by_cases h2 : (val r).testBit (Ech.low (val b)) = true
    · simp [h1, h2, val_xor hr hb]
    · simp [h1, h2]
theorem step_length (r b : List Nat) (M : Nat) (hr : r.length ≤ M) (hb : b.length ≤ M) : (stepL r b).length ≤ M := by
  unfold stepL
  split
  · rw [xorL_length]; omega
  · exact hr
/-- Rows whose words are words, and which have at most M of them. -/
def Fit (M : Nat) (B : List (List Nat)) : Prop := ∀ b ∈ B, smalls b ∧ b.length ≤ M
theorem Fit.nil (M : Nat) : Fit M [] := fun _ h => by cases h
theorem Fit.tail {M : Nat} {b : List Nat} {B : List (List Nat)} (h : Fit M (b :: B)) : Fit M B := fun a ha => h a (List.mem_cons_of_mem _ ha)
theorem reduce_small {M : Nat} : ∀ {B : List (List Nat)}, Fit M B → ∀ {v : List Nat}, smalls v → v.length ≤ M → smalls (reduceL B v) ∧ (reduceL B v).length ≤ M
  | [], _, v, hv, hl => ⟨hv, hl⟩
  | b :: B, h, v, hv, hl => by
    have hb := h b List.mem_cons_self
    exact reduce_small h.tail (step_small hv hb.1) (step_length v b M hl hb.2)
theorem reduce_val {M : Nat} : ∀ {B : List (List Nat)}, Fit M B → ∀ {v : List Nat}, smalls v → val (reduceL B v) = Ech.red (B.map val) (val v)
  | [], _, v, hv => rfl
  | b :: B, h, v, hv => by
    have hb := h b List.mem_cons_self
    show val (reduceL B (stepL v b)) = Ech.red (B.map val) _
    rw [reduce_val h.tail (step_small hv hb.1), step_val hv hb.1]
theorem reduce_take {B : List (List Nat)} {v : List Nat} {k : Nat} (h : k < B.length) : reduceL (B.take (k + 1)) v = stepL (reduceL (B.take k) v) (B.getD k []) := by
  unfold reduceL
  rw [List.take_succ_eq_append_getElem h, List.foldl_append]
  simp [List.getD_eq_getElem?_getD, List.getElem?_eq_getElem h]
theorem reduce_all {B : List (List Nat)} {v : List Nat} {k : Nat} (h : B.length ≤ k) : reduceL (B.take k) v = reduceL B v := by rw [List.take_of_length_le h]

/-- The place of the first row whose first bit is greater than f; how many rows, if there is none. -/
def idxL (f : Int) : List (List Nat) → Nat
  | [] => 0
  | b :: B => if f < firstI b then 0 else idxL f B + 1
theorem idxL_le (f : Int) : ∀ B, idxL f B ≤ B.length
  | [] => Nat.le_refl _
  | b :: B => by
    simp only [idxL]
    split
    · exact Nat.zero_le _
    · have := idxL_le f B; simp only [List.length_cons]; omega
theorem idxL_low (f : Int) : ∀ (B : List (List Nat)) (j : Nat), j < idxL f B → ¬ f < firstI (B.getD j [])
  | [], j, h => by simp [idxL] at h
  | b :: B, j, h => by
    simp only [idxL] at h
    split at h
    · omega
    · rename_i hb
      cases j with
      | zero => simpa using hb
      | succ j => simpa using idxL_low f B j (by omega)
theorem idxL_at (f : Int) : ∀ (B : List (List Nat)), idxL f B < B.length → f < firstI (B.getD (idxL f B) [])
  | [], h => by simp [idxL] at h
  | b :: B, h => by
    simp only [idxL] at h ⊢
    split
    · rename_i hb; simpa using hb
    · rename_i hb
      rw [if_neg hb] at h
      simpa using idxL_at f B (by simpa using h)
theorem idxL_of (f : Int) (B : List (List Nat)) (k : Nat) (hk : k ≤ B.length) (h : ∀ j, j < k → ¬ f < firstI (B.getD j [])) (h2 : k < B.length → f < firstI (B.getD k [])) : idxL f B = k := by
  have hle := idxL_le f B
  rcases Nat.lt_trichotomy (idxL f B) k with h1 | h1 | h1
  · exact absurd (idxL_at f B (by omega)) (h _ h1)
  · exact h1
  · exact absurd (h2 (by omega)) (idxL_low f B k h1)
/-- r at place p. -/
def insAt (r : List Nat) (p : Nat) (C : List (List Nat)) : List (List Nat) := C.take p ++ r :: C.drop p
theorem insAt_length (r : List Nat) (p : Nat) (C : List (List Nat)) (h : p ≤ C.length) : (insAt r p C).length = C.length + 1 := by
  simp [insAt]; omega
theorem insAt_mem {r : List Nat} {p : Nat} {C : List (List Nat)} {x : List Nat} : x ∈ insAt r p C ↔ x = r ∨ x ∈ C := by
  unfold insAt
  rw [List.mem_append, List.mem_cons]
  constructor
  · rintro (h | h | h)
    · exact .inr (List.mem_of_mem_take h)
    · exact .inl h
    · exact .inr (List.mem_of_mem_drop h)
  · rintro (h | h)
    · exact .inr (.inl h)
    · rw [← List.take_append_drop p C, List.mem_append] at h
      rcases h with h | h
      · exact .inl h
      · exact .inr (.inr h)
theorem lt_first {a b : List Nat} (ha : smalls a) (hb : smalls b) (h : val a ≠ 0) : firstI a < firstI b ↔ Ech.low (val a) < Ech.low (val b) := by
  rw [firstI_val ha, firstI_val hb, if_neg h]
  split
  · rename_i h0
    rw [h0]
    have : Ech.low 0 = 0 := rfl
    omega
  · omega
theorem put_val {M : Nat} {r : List Nat} (hr : smalls r) (h0 : val r ≠ 0) : ∀ {C : List (List Nat)}, Fit M C → (insAt r (idxL (firstI r) C) C).map val = Ech.put (val r) (C.map val)
  | [], _ => rfl
  | c :: C, h => by
    have hc := h c List.mem_cons_self
    have hl := lt_first hr hc.1 h0
    simp only [idxL, List.map_cons, Ech.put]
    by_cases hlt : firstI r < firstI c
    · rw [if_pos hlt, if_pos (hl.1 hlt)]; rfl
    · rw [if_neg hlt, if_neg (fun k => hlt (hl.2 k)), ← put_val hr h0 h.tail]; rfl
/-- Add of echelon, and the reference's. -/
def insertL (B : List (List Nat)) (v : List Nat) : List (List Nat) :=
  if firstI (reduceL B v) < 0 then B else insAt (reduceL B v) (idxL (firstI (reduceL B v)) (B.map fun b => stepL b (reduceL B v))) (B.map fun b => stepL b (reduceL B v))
def raddL (B : List (List Nat)) (v : List Nat) : List (List Nat) :=
  if firstI (reduceL B v) < 0 then B else insAt (reduceL B v) (idxL (firstI (reduceL B v)) B) (B.map fun b => stepL b (reduceL B v))
theorem Fit.map {M : Nat} {B : List (List Nat)} (h : Fit M B) {r : List Nat} (hr : smalls r) (hl : r.length ≤ M) : Fit M (B.map fun b => stepL b r) := by
  intro x hx
  obtain ⟨b, hb, rfl⟩ := List.mem_map.1 hx
  exact ⟨step_small (h b hb).1 hr, step_length b r M (h b hb).2 hl⟩
theorem Fit.insert {M : Nat} {B : List (List Nat)} (h : Fit M B) {v : List Nat} (hv : smalls v) (hl : v.length ≤ M) : Fit M (insertL B v) := by
  obtain ⟨h1, h2⟩ := reduce_small h hv hl
  unfold insertL
  split
  · exact h
  · intro x hx
    rcases insAt_mem.1 hx with e | hx
    · rw [e]; exact ⟨h1, h2⟩
    · exact h.map h1 h2 x hx
theorem insert_length (B : List (List Nat)) (v : List Nat) : (insertL B v).length ≤ B.length + 1 := by
  unfold insertL
  split
  · omega
  · rw [insAt_length _ _ _ (idxL_le _ _), List.length_map]; exact Nat.le_refl _
theorem map_val {M : Nat} {B : List (List Nat)} (h : Fit M B) {r : List Nat} (hr : smalls r) (h0 : val r ≠ 0) : (B.map fun b => stepL b r).map val = (B.map val).map (Ech.upd (val r)) := by
  rw [List.map_map, List.map_map]
  apply List.map_congr_left
  intro b hb
  show val (stepL b r) = Ech.upd (val r) (val b)
  rw [step_val (h b hb).1 hr]
  unfold Ech.upd
  by_cases hbit : (val b).testBit (Ech.low (val r)) = true
  · rw [if_pos ⟨h0, hbit⟩, if_pos hbit]
  · rw [if_neg (fun k => hbit k.2), if_neg hbit]
theorem insert_val {M : Nat} {B : List (List Nat)} (h : Fit M B) {v : List Nat} (hv : smalls v) (hl : v.length ≤ M) : (insertL B v).map val = Ech.ins (B.map val) (val v) := by
  obtain ⟨h1, h2⟩ := reduce_small h hv hl
  unfold insertL Ech.ins
  rw [← reduce_val h hv]
  by_cases h0 : val (reduceL B v) = 0
  · rw [if_pos ((firstI_neg h1).2 h0), if_pos h0]
  · rw [if_neg (fun k => h0 ((firstI_neg h1).1 k)), if_neg h0, put_val h1 h0 (h.map h1 h2), map_val h h1 h0]
theorem idxL_congr (f : Int) : ∀ {B C : List (List Nat)}, B.map firstI = C.map firstI → idxL f B = idxL f C
  | [], [], _ => rfl
  | [], c :: C, h => by simp at h
  | b :: B, [], h => by simp at h
  | b :: B, c :: C, h => by
    simp only [List.map_cons, List.cons.injEq] at h
    simp only [idxL, h.1, idxL_congr f h.2]
/-- On a basis the two are one. -/
theorem radd_eq {M : Nat} {B : List (List Nat)} (h : Fit M B) (hR : Ech.Red (B.map val)) {v : List Nat} (hv : smalls v) (hl : v.length ≤ M) : raddL B v = insertL B v := by
  obtain ⟨h1, h2⟩ := reduce_small h hv hl
  unfold raddL insertL
  by_cases h0 : firstI (reduceL B v) < 0
  · rw [if_pos h0, if_pos h0]
  · rw [if_neg h0, if_neg h0]
    have h0' : val (reduceL B v) ≠ 0 := fun k => h0 ((firstI_neg h1).2 k)
    rw [idxL_congr (B := B) (C := B.map fun b => stepL b (reduceL B v))]
    rw [List.map_map]
    apply List.map_congr_left
    intro b hb
    show firstI b = firstI (stepL b (reduceL B v))
    have hu := Ech.upd_low hR (v := val v) (b := val b) (by rw [← reduce_val h hv]; exact h0') (List.mem_map.2 ⟨b, hb, rfl⟩)
    have he : val (stepL b (reduceL B v)) = Ech.upd (Ech.red (B.map val) (val v)) (val b) := by
      rw [← reduce_val h hv, step_val (h b hb).1 h1]
      unfold Ech.upd
      by_cases hbit : (val b).testBit (Ech.low (val (reduceL B v))) = true
      · rw [if_pos ⟨h0', hbit⟩, if_pos hbit]
      · rw [if_neg (fun k => hbit k.2), if_neg hbit]
    rw [firstI_val (h b hb).1, firstI_val (step_small (h b hb).1 h1), he, if_neg hu.2, hu.1, if_neg (hR.1 _ (List.mem_map.2 ⟨b, hb, rfl⟩))]

def basisL (l : List (List Nat)) : List (List Nat) := l.foldl insertL []
def rbasisL (l : List (List Nat)) : List (List Nat) := l.foldl raddL []
theorem foldl_basis {M : Nat} : ∀ (l B : List (List Nat)), Fit M l → Fit M B → Ech.Red (B.map val) → Fit M (l.foldl insertL B) ∧ (l.foldl insertL B).map val = (l.map val).foldl Ech.ins (B.map val) ∧ l.foldl raddL B = l.foldl insertL B ∧ (l.foldl insertL B).length ≤ B.length + l.length
  | [], B, _, hB, _ => ⟨hB, rfl, rfl, by simp⟩
  | v :: l, B, hl, hB, hR => by
    have hv := hl v List.mem_cons_self
    have hi := insert_val hB hv.1 hv.2
    obtain ⟨h1, h2, h3, h4⟩ := foldl_basis l (insertL B v) hl.tail (hB.insert hv.1 hv.2) (by rw [hi]; exact hR.ins _)
    refine ⟨h1, ?_, ?_, ?_⟩
    · show (l.foldl insertL (insertL B v)).map val = _
      rw [h2, hi]; rfl
    · show l.foldl raddL (raddL B v) = l.foldl insertL (insertL B v)
      rw [radd_eq hB hR hv.1 hv.2, h3]
    · show (l.foldl insertL (insertL B v)).length ≤ _
      have := insert_length B v
      simp only [List.length_cons]
      omega
theorem basis_fit {M : Nat} {l : List (List Nat)} (h : Fit M l) : Fit M (basisL l) := (foldl_basis l [] h (.nil M) .nil).1
theorem basis_val {M : Nat} {l : List (List Nat)} (h : Fit M l) : (basisL l).map val = Ech.basis (l.map val) := (foldl_basis l [] h (.nil M) .nil).2.1
theorem basis_red {M : Nat} {l : List (List Nat)} (h : Fit M l) : Ech.Red ((basisL l).map val) := by rw [basis_val h]; exact Ech.red_basis _
theorem rbasis_eq {M : Nat} {l : List (List Nat)} (h : Fit M l) : rbasisL l = basisL l := (foldl_basis l [] h (.nil M) .nil).2.2.1
theorem basis_len {M : Nat} {l : List (List Nat)} (h : Fit M l) : (basisL l).length ≤ l.length := by
  have h1 : (l.foldl insertL []).length ≤ l.length := by simpa using (foldl_basis l [] h (.nil M) .nil).2.2.2
  exact h1
theorem Fit.take {M : Nat} {B : List (List Nat)} (h : Fit M B) (k : Nat) : Fit M (B.take k) := fun b hb => h b (List.mem_of_mem_take hb)
theorem basis_take {l : List (List Nat)} {k : Nat} (h : k < l.length) : basisL (l.take (k + 1)) = insertL (basisL (l.take k)) (l.getD k []) := by
  unfold basisL
  rw [List.take_succ_eq_append_getElem h, List.foldl_append]
  simp [List.getD_eq_getElem?_getD, List.getElem?_eq_getElem h]
theorem rbasis_take {l : List (List Nat)} {k : Nat} (h : k < l.length) : rbasisL (l.take (k + 1)) = raddL (rbasisL (l.take k)) (l.getD k []) := by
  unfold rbasisL
  rw [List.take_succ_eq_append_getElem h, List.foldl_append]
  simp [List.getD_eq_getElem?_getD, List.getElem?_eq_getElem h]

/-- Rows one by one the same, up to words of 0 at their ends. -/
def SameR (A B : List (List Nat)) : Prop := A.length = B.length ∧ ∀ i, i < A.length → cnt (xorL (A.getD i []) (B.getD i [])) = 0
theorem SameR.refl (A : List (List Nat)) : SameR A A := ⟨rfl, fun i _ => cnt_of_zero _ (xorL_self_zero _)⟩
theorem Fit.getD {M : Nat} {B : List (List Nat)} (h : Fit M B) (i : Nat) : smalls (B.getD i []) ∧ (B.getD i []).length ≤ M := by
  rw [List.getD_eq_getElem?_getD]
  cases hx : B[i]? with
  | none => exact ⟨smalls.nil, Nat.zero_le _⟩
  | some x => exact h x (List.mem_of_getElem? hx)
theorem SameR.of_val {M : Nat} {A B : List (List Nat)} (hA : Fit M A) (hB : Fit M B) (h : A.map val = B.map val) : SameR A B := by
  have hl : A.length = B.length := by simpa using congrArg List.length h
  refine ⟨hl, fun i hi => ?_⟩
  have hi' : i < B.length := by omega
  have h1 : val (A.getD i []) = val (B.getD i []) := by
    have h2 := congrArg (fun l => l.getD i 0) h
    simpa [List.getD_eq_getElem?_getD, List.getElem?_eq_getElem hi, List.getElem?_eq_getElem hi'] using h2
  apply cnt_of_zero
  rw [← val_zero, val_xor (hA.getD i).1 (hB.getD i).1, h1, Nat.xor_self]
/-- Rows that are the same ones have one basis. -/
theorem basis_order {M : Nat} {l m : List (List Nat)} (hl : Fit M l) (h : ∀ x, x ∈ m ↔ x ∈ l) : SameR (basisL m) (basisL l) := by
  have hm : Fit M m := fun b hb => hl b ((h b).1 hb)
  refine SameR.of_val (basis_fit hm) (basis_fit hl) ?_
  rw [basis_val hm, basis_val hl]
  refine Ech.basis_same fun x => ?_
  simp only [List.mem_map]
  exact ⟨fun ⟨a, ha, e⟩ => ⟨a, (h a).1 ha, e⟩, fun ⟨a, ha, e⟩ => ⟨a, (h a).2 ha, e⟩⟩
/-- Each row is in the span of a basis of all, and the xor of any two. -/
theorem basis_in {M : Nat} {l : List (List Nat)} (h : Fit M l) {v : List Nat} (hv : v ∈ l) : firstI (reduceL (basisL l) v) < 0 := by
  have hs := h v hv
  rw [firstI_neg (reduce_small (basis_fit h) hs.1 hs.2).1, reduce_val (basis_fit h) hs.1, Ech.red_zero (basis_red h), basis_val h, Ech.sp_basis]
  exact .of_mem (List.mem_map.2 ⟨v, hv, rfl⟩)
theorem basis_in2 {M : Nat} {l : List (List Nat)} (h : Fit M l) {v u : List Nat} (hv : v ∈ l) (hu : u ∈ l) : firstI (reduceL (basisL l) (xorL v u)) < 0 := by
  have hs := h v hv
  have ht := h u hu
  have hx : smalls (xorL v u) := xorL_small hs.1 ht.1
  have hxl : (xorL v u).length ≤ M := by rw [xorL_length]; omega
  rw [firstI_neg (reduce_small (basis_fit h) hx hxl).1, reduce_val (basis_fit h) hx, Ech.red_zero (basis_red h), basis_val h, Ech.sp_basis, val_xor hs.1 ht.1]
  exact (Ech.Sp.of_mem (List.mem_map.2 ⟨v, hv, rfl⟩)).xor (Ech.Sp.of_mem (List.mem_map.2 ⟨u, hu, rfl⟩))
/-- A basis' first bits rise, and none of them is in another one of its rows. -/
theorem basis_rises {M : Nat} {l : List (List Nat)} (h : Fit M l) {i : Nat} (hi : i < (basisL l).length) :
    0 ≤ firstI ((basisL l).getD i []) ∧ (0 < i → firstI ((basisL l).getD (i - 1) []) < firstI ((basisL l).getD i [])) ∧ ∀ k, k < (basisL l).length → k ≠ i → getI ((basisL l).getD k []) (firstI ((basisL l).getD i [])) = false := by
  have hf := basis_fit h
  have hR := basis_red h
  have hp := List.pairwise_iff_getElem.1 hR.2
  have hnz : ∀ j, j < (basisL l).length → val ((basisL l).getD j []) ≠ 0 := fun j hj => by
    refine hR.1 _ (List.mem_map.2 ⟨_, ?_, rfl⟩)
    simp [List.getD_eq_getElem?_getD, List.getElem?_eq_getElem hj]
  have hpair : ∀ j k, j < k → k < (basisL l).length → Ech.low (val ((basisL l).getD j [])) < Ech.low (val ((basisL l).getD k [])) ∧ (val ((basisL l).getD j [])).testBit (Ech.low (val ((basisL l).getD k []))) = false := fun j k hjk hk => by
    have := hp j k (by simpa using Nat.lt_trans hjk hk) (by simpa using hk) hjk
    simpa [List.getD_eq_getElem?_getD, List.getElem?_eq_getElem hk, List.getElem?_eq_getElem (Nat.lt_trans hjk hk)] using this
  have hfi : ∀ j, j < (basisL l).length → firstI ((basisL l).getD j []) = (Ech.low (val ((basisL l).getD j [])) : Int) := fun j hj => by rw [firstI_val (hf.getD j).1, if_neg (hnz j hj)]
  refine ⟨by rw [hfi i hi]; omega, fun h0 => ?_, fun k hk hki => ?_⟩
  · rw [hfi i hi, hfi (i - 1) (by omega)]
    have := (hpair (i - 1) i (by omega) hi).1
    omega
  · rw [getI_val (hf.getD k).1 (hf.getD i).1]
    rcases Nat.lt_or_gt_of_ne hki with h1 | h1
    · rw [(hpair k i h1 hi).2]; simp
    · rw [Ech.low_none (hnz k hk) (hpair i k h1 hk).1]; simp
end Go.Proofs.YtmdmipojbeppiaaGreatDoor
