/-
  Plain mathematics of a basis of rows of bits, the rows being numbers: what is left of a row, one more row, the span, and that a basis whose lowest bits rise and stand in no other row is one. Of no program, no condition.
  Rows of words as numbers, and what echelon's calls and the reference's tell of rows, on plain lists: the two agree on a basis. Of no program; words below 2^64.
  Plain mathematics of what a span has, the rows being numbers: rows of which none has the lowest bit of one ahead, the xor that a choice tells, and that a row with a mark of its own behind all tells its choice. Of no program, no condition.
  What span's calls and the reference's tell of rows of words, on plain lists: the places that are kept, and the choice whose xor a row is. Of no program; words below 2^64.
  Plain mathematics of choosing rows: a distance ('distZ'), the first row that brings the degree nearest ('nearTo', 'near_is'), what is chosen step by step ('chTo') and what always holds of it; the xor of what is chosen ('sumCh'). No condition.
  Plain mathematics of what is chosen as a list of places ('Chn'): it is what 'chTo' holds, its sort is 'placesCh'; a degree that is told from the words that meet ('deg_with'); a distance as a number without sign. No condition.
-/
import Derived.Test.YtfimbbiholllhaaDoorM1
import Derived.Test.YtfimbbiholllhaaDoorM6
import Derived.Test.YtfimbbiholllhaaDoorM2
import Derived.Test.YtfimbbiholllhaaDoorM5
namespace Go.Proofs.YtfimbbiholllhaaDoor.Ech

def lowF : Nat → Nat → Nat
  | 0, _ => 0
  | f + 1, x => if x % 2 = 1 then 0 else lowF f (x / 2) + 1
/-- The lowest bit of a number that is not 0. -/
def low (x : Nat) : Nat := lowF x x
theorem lowF_spec : ∀ f x, x ≠ 0 → x ≤ f → x.testBit (lowF f x) = true ∧ ∀ j, j < lowF f x → x.testBit j = false
  | 0, x, h, hf => absurd (Nat.le_zero.1 hf) h
  | f + 1, x, h, hf => by
    unfold lowF
    by_cases e : x % 2 = 1
    · rw [if_pos e]
      exact ⟨by rw [Nat.testBit_zero]; simpa using e, fun j hj => by omega⟩
    · rw [if_neg e]
      obtain ⟨h1, h2⟩ := lowF_spec f (x / 2) (by omega) (by omega)
      refine ⟨by rw [Nat.testBit_succ]; exact h1, fun j hj => ?_⟩
      cases j with
      | zero => rw [Nat.testBit_zero]; simpa using e
      | succ j => rw [Nat.testBit_succ]; exact h2 j (by omega)
theorem low_bit {x : Nat} (h : x ≠ 0) : x.testBit (low x) = true := (lowF_spec x x h (Nat.le_refl _)).1
theorem low_none {x j : Nat} (h : x ≠ 0) (hj : j < low x) : x.testBit j = false := (lowF_spec x x h (Nat.le_refl _)).2 j hj
theorem ne_of_bit {x i : Nat} (h : x.testBit i = true) : x ≠ 0 := by
  rintro rfl
  simp at h
theorem low_unique {x i : Nat} (h : x.testBit i = true) (h2 : ∀ j, j < i → x.testBit j = false) : low x = i := by
  have h0 := ne_of_bit h
  rcases Nat.lt_trichotomy (low x) i with h1 | h1 | h1
  · have := h2 _ h1; rw [low_bit h0] at this; cases this
  · exact h1
  · have := low_none h0 h1; rw [h] at this; cases this
theorem low_le {x i : Nat} (h : x.testBit i = true) : low x ≤ i := by
  rcases Nat.lt_or_ge i (low x) with h1 | h1
  · have := low_none (ne_of_bit h) h1; rw [h] at this; cases this
  · exact h1

theorem xor_cancel (b p q : Nat) : (b ^^^ p) ^^^ (b ^^^ q) = p ^^^ q := by
  apply Nat.eq_of_testBit_eq
  intro i
  simp only [Nat.testBit_xor]
  cases b.testBit i <;> cases p.testBit i <;> cases q.testBit i <;> rfl
theorem xor_left (b p q : Nat) : (b ^^^ p) ^^^ q = b ^^^ (p ^^^ q) := Nat.xor_assoc b p q
theorem xor_mid (b p q : Nat) : p ^^^ (b ^^^ q) = b ^^^ (p ^^^ q) := by
  apply Nat.eq_of_testBit_eq
  intro i
  simp only [Nat.testBit_xor]
  cases b.testBit i <;> cases p.testBit i <;> cases q.testBit i <;> rfl
theorem eq_of_xor {a b : Nat} (h : a ^^^ b = 0) : a = b := by
  apply Nat.eq_of_testBit_eq
  intro i
  have := congrArg (fun x => x.testBit i) h
  simp only [Nat.testBit_xor, Nat.zero_testBit] at this
  revert this
  cases a.testBit i <;> cases b.testBit i <;> simp
theorem xor_back (a b : Nat) : (a ^^^ b) ^^^ b = a := by rw [Nat.xor_assoc, Nat.xor_self, Nat.xor_zero]

/-- What is left of a row. -/
def red (B : List Nat) (v : Nat) : Nat := B.foldl (fun r b => if b ≠ 0 ∧ r.testBit (low b) = true then r ^^^ b else r) v
/-- The xor of those rows whose lowest bit x has. -/
def comb : List Nat → Nat → Nat
  | [], _ => 0
  | b :: B, x => if x.testBit (low b) = true then b ^^^ comb B x else comb B x
/-- What a basis is. -/
def Red (B : List Nat) : Prop := (∀ b ∈ B, b ≠ 0) ∧ B.Pairwise fun a b => low a < low b ∧ a.testBit (low b) = false
/-- What a span has: the xors of some of its rows. -/
def Sp (B : List Nat) (x : Nat) : Prop := ∃ l : List Nat, (∀ b ∈ l, b ∈ B) ∧ l.foldr (fun b a => b ^^^ a) 0 = x
theorem Sp.zero {B : List Nat} : Sp B 0 := ⟨[], (fun _ h => by cases h), rfl⟩
theorem Sp.add {B : List Nat} {b x : Nat} (hb : b ∈ B) (h : Sp B x) : Sp B (b ^^^ x) := by
  obtain ⟨l, h1, rfl⟩ := h
  refine ⟨b :: l, fun c hc => ?_, rfl⟩
  rcases List.mem_cons.1 hc with e | hc
  · rw [e]; exact hb
  · exact h1 c hc
theorem Sp.ind {B : List Nat} {P : Nat → Prop} (h0 : P 0) (hs : ∀ b x, b ∈ B → P x → P (b ^^^ x)) {x : Nat} (h : Sp B x) : P x := by
  obtain ⟨l, h1, rfl⟩ := h
  induction l with
  | nil => exact h0
  | cons b l ih => exact hs b _ (h1 b List.mem_cons_self) (ih fun c hc => h1 c (List.mem_cons_of_mem _ hc))

theorem Sp.of_mem {B : List Nat} {b : Nat} (h : b ∈ B) : Sp B b := by
  have := Sp.add h Sp.zero
  rwa [Nat.xor_zero] at this
theorem Sp.xor {B : List Nat} {x y : Nat} (h : Sp B x) (k : Sp B y) : Sp B (x ^^^ y) := by
  refine Sp.ind (P := fun x => Sp B (x ^^^ y)) (by rw [Nat.zero_xor]; exact k) (fun b x hb ih => ?_) h
  rw [xor_left]
  exact .add hb ih
theorem Sp.of {A B : List Nat} {x : Nat} (h : ∀ a ∈ A, Sp B a) (k : Sp A x) : Sp B x := by
  exact Sp.ind (P := fun x => Sp B x) .zero (fun b x hb ih => (h _ hb).xor ih) k
theorem Sp.mono {A B : List Nat} {x : Nat} (h : ∀ a ∈ A, a ∈ B) (k : Sp A x) : Sp B x := k.of fun a ha => .of_mem (h a ha)

theorem comb_xor (B : List Nat) (x y : Nat) : comb B (x ^^^ y) = comb B x ^^^ comb B y := by
  induction B with
  | nil => simp [comb]
  | cons b B ih =>
    simp only [comb, Nat.testBit_xor, ih]
    cases x.testBit (low b) <;> cases y.testBit (low b)
    · simp
    · simp [xor_mid]
    · simp [xor_left]
    · simp only [Bool.xor_self, if_true]
      rw [xor_cancel]
      rfl
theorem comb_none {B : List Nat} {x : Nat} (h : ∀ b ∈ B, x.testBit (low b) = false) : comb B x = 0 := by
  induction B with
  | nil => rfl
  | cons b B ih =>
    simp only [comb]
    rw [h b List.mem_cons_self, if_neg (by decide)]
    exact ih fun b hb => h b (List.mem_cons_of_mem _ hb)
theorem comb_bit_none {B : List Nat} {x i : Nat} (h : ∀ b ∈ B, b.testBit i = false) : (comb B x).testBit i = false := by
  induction B with
  | nil => simp [comb]
  | cons b B ih =>
    have h1 := h b List.mem_cons_self
    have h2 := ih fun b hb => h b (List.mem_cons_of_mem _ hb)
    simp only [comb]
    split
    · rw [Nat.testBit_xor, h1, h2]; rfl
    · exact h2
theorem sp_comb (B : List Nat) (x : Nat) : Sp B (comb B x) := by
  induction B with
  | nil => exact .zero
  | cons b B ih =>
    have ih' : Sp (b :: B) (comb B x) := ih.mono fun a ha => List.mem_cons_of_mem _ ha
    simp only [comb]
    split
    · exact .add List.mem_cons_self ih'
    · exact ih'

theorem Red.tail {b : Nat} {B : List Nat} (h : Red (b :: B)) : Red B := ⟨fun a ha => h.1 a (List.mem_cons_of_mem _ ha), (List.pairwise_cons.1 h.2).2⟩
theorem Red.head {b : Nat} {B : List Nat} (h : Red (b :: B)) : ∀ a ∈ B, low b < low a ∧ b.testBit (low a) = false := (List.pairwise_cons.1 h.2).1
theorem Red.low_lt {b : Nat} {B : List Nat} (h : Red (b :: B)) {j : Nat} (hj : j ≤ low b) : ∀ a ∈ B, a.testBit j = false := fun a ha =>
  low_none (h.1 a (List.mem_cons_of_mem _ ha)) (Nat.lt_of_le_of_lt hj (h.head a ha).1)
theorem Red.nil : Red [] := ⟨(fun _ h => by cases h), List.Pairwise.nil⟩
theorem Red.two : ∀ {B : List Nat}, Red B → ∀ {a c : Nat}, a ∈ B → c ∈ B → a ≠ c → low a ≠ low c ∧ a.testBit (low c) = false
  | [], _, _, _, ha, _, _ => by cases ha
  | b :: B, h, a, c, ha, hc, hne => by
    rcases List.mem_cons.1 ha with ea | ha'
    · rcases List.mem_cons.1 hc with ec | hc'
      · exact absurd (ea.trans ec.symm) hne
      · have := h.head c hc'
        rw [ea]
        exact ⟨by omega, this.2⟩
    · rcases List.mem_cons.1 hc with ec | hc'
      · have := h.head a ha'
        rw [ec]
        exact ⟨by omega, h.low_lt (Nat.le_refl _) a ha'⟩
      · exact h.tail.two ha' hc' hne
theorem comb_mem : ∀ {B : List Nat}, Red B → ∀ {b : Nat}, b ∈ B → comb B b = b
  | [], _, _, hb => by cases hb
  | c :: B, h, b, hb => by
    simp only [comb]
    rcases List.mem_cons.1 hb with e | hb'
    · rw [e, if_pos (low_bit (h.1 c List.mem_cons_self)), comb_none (fun a ha => (h.head a ha).2), Nat.xor_zero]
    · rw [h.low_lt (Nat.le_refl _) b hb', if_neg (by decide)]
      exact comb_mem h.tail hb'
theorem comb_sp {B : List Nat} (h : Red B) {x : Nat} (k : Sp B x) : comb B x = x := by
  refine Sp.ind (P := fun x => comb B x = x) (comb_none fun b _ => Nat.zero_testBit _) (fun b x hb ih => ?_) k
  rw [comb_xor, comb_mem h hb, ih]
theorem comb_bit : ∀ {B : List Nat}, Red B → ∀ {b : Nat} (x : Nat), b ∈ B → (comb B x).testBit (low b) = x.testBit (low b)
  | [], _, _, _, hb => by cases hb
  | c :: B, h, b, x, hb => by
    simp only [comb]
    rcases List.mem_cons.1 hb with e | hb'
    · have h1 := comb_bit_none (x := x) (h.low_lt (Nat.le_refl (low c)))
      rw [e]
      split
      · rename_i hx; rw [Nat.testBit_xor, h1, low_bit (h.1 c List.mem_cons_self), hx]; rfl
      · rename_i hx; rw [h1]; simpa using hx
    · have ih := comb_bit h.tail x hb'
      split
      · rw [Nat.testBit_xor, (h.head b hb').2, ih]; simp
      · exact ih
theorem red_eq : ∀ {B : List Nat}, Red B → ∀ v, red B v = v ^^^ comb B v
  | [], _, v => by simp [red, comb]
  | c :: B, h, v => by
    show red B _ = _
    rw [red_eq h.tail]
    simp only [comb]
    by_cases hv : v.testBit (low c) = true
    · rw [if_pos ⟨h.1 c List.mem_cons_self, hv⟩, if_pos hv, comb_xor, comb_none (fun a ha => (h.head a ha).2), Nat.xor_zero, Nat.xor_assoc]
    · rw [if_neg (fun k => hv k.2), if_neg hv]
theorem red_low {B : List Nat} (h : Red B) (v : Nat) {b : Nat} (hb : b ∈ B) : (red B v).testBit (low b) = false := by
  rw [red_eq h, Nat.testBit_xor, comb_bit h v hb]
  cases v.testBit (low b) <;> rfl
theorem red_zero {B : List Nat} (h : Red B) (v : Nat) : red B v = 0 ↔ Sp B v := by
  rw [red_eq h]
  constructor
  · intro k
    rw [eq_of_xor k]
    exact sp_comb B v
  · intro k
    rw [comb_sp h k, Nat.xor_self]

/-- A row with r's lowest bit taken away. -/
def upd (r b : Nat) : Nat := if b.testBit (low r) = true then b ^^^ r else b
/-- r ahead of the first one whose lowest bit is greater. -/
def put (r : Nat) : List Nat → List Nat
  | [] => [r]
  | b :: B => if low r < low b then r :: b :: B else b :: put r B
def ins (B : List Nat) (v : Nat) : List Nat := if red B v = 0 then B else put (red B v) (B.map (upd (red B v)))

theorem mem_put {r x : Nat} : ∀ {B : List Nat}, x ∈ put r B ↔ x = r ∨ x ∈ B
  | [] => by simp [put]
  | b :: B => by
    simp only [put]
    split
    · simp
    · rw [List.mem_cons, mem_put, List.mem_cons]
      constructor
      · rintro (h | h | h)
        · exact .inr (.inl h)
        · exact .inl h
        · exact .inr (.inr h)
      · rintro (h | h | h)
        · exact .inr (.inl h)
        · exact .inl h
        · exact .inr (.inr h)
theorem put_length (r : Nat) : ∀ B : List Nat, (put r B).length = B.length + 1
  | [] => rfl
  | b :: B => by
    simp only [put]
    split
    · rfl
    · simp [put_length r B]
theorem put_pairs {r : Nat} : ∀ {C : List Nat}, (C.Pairwise fun a b => low a < low b ∧ a.testBit (low b) = false) → (∀ c ∈ C, low c ≠ low r ∧ c.testBit (low r) = false ∧ r.testBit (low c) = false) →
    (put r C).Pairwise fun a b => low a < low b ∧ a.testBit (low b) = false
  | [], _, _ => by simp [put]
  | c :: C, h, k => by
    obtain ⟨h1, h2⟩ := List.pairwise_cons.1 h
    simp only [put]
    split
    · rename_i hlt
      refine List.pairwise_cons.2 ⟨fun a ha => ?_, h⟩
      refine ⟨?_, (k a ha).2.2⟩
      rcases List.mem_cons.1 ha with e | ha'
      · rw [e]; exact hlt
      · have := (h1 a ha').1; omega
    · rename_i hlt
      have hc := k c List.mem_cons_self
      refine List.pairwise_cons.2 ⟨fun a ha => ?_, put_pairs h2 fun a ha => k a (List.mem_cons_of_mem _ ha)⟩
      rcases mem_put.1 ha with e | ha'
      · rw [e]; exact ⟨by omega, hc.2.1⟩
      · exact h1 a ha'

theorem upd_low {B : List Nat} (h : Red B) {v b : Nat} (hr : red B v ≠ 0) (hb : b ∈ B) : low (upd (red B v) b) = low b ∧ upd (red B v) b ≠ 0 := by
  have hl := red_low h v hb
  have hbn := h.1 b hb
  unfold upd
  split
  · rename_i hf
    have h1 : low b < low (red B v) := by
      have h2 := low_le hf
      have h3 : low b ≠ low (red B v) := by
        intro e
        rw [e, low_bit hr] at hl
        cases hl
      omega
    have h4 : (b ^^^ red B v).testBit (low b) = true := by rw [Nat.testBit_xor, low_bit hbn, hl]; rfl
    exact ⟨low_unique h4 fun j hj => by rw [Nat.testBit_xor, low_none hbn hj, low_none hr (by omega)]; rfl, ne_of_bit h4⟩
  · exact ⟨rfl, hbn⟩
theorem upd_bit {B : List Nat} (h : Red B) {v b c : Nat} (hc : c ∈ B) : (upd (red B v) b).testBit (low c) = b.testBit (low c) := by
  unfold upd
  split
  · rw [Nat.testBit_xor, red_low h v hc]; simp
  · rfl
theorem upd_own {r b : Nat} (hr : r ≠ 0) : (upd r b).testBit (low r) = false := by
  unfold upd
  split
  · rename_i hf; rw [Nat.testBit_xor, hf, low_bit hr]; rfl
  · rename_i hf; simpa using hf
theorem Red.ins {B : List Nat} (h : Red B) (v : Nat) : Red (ins B v) := by
  unfold Ech.ins
  split
  · exact h
  · rename_i hr
    refine ⟨fun x hx => ?_, put_pairs ?_ ?_⟩
    · rcases mem_put.1 hx with e | hx'
      · rw [e]; exact hr
      · obtain ⟨b, hb, rfl⟩ := List.mem_map.1 hx'
        exact (upd_low h hr hb).2
    · rw [List.pairwise_map]
      refine List.Pairwise.imp_of_mem ?_ h.2
      intro a b ha hb hab
      rw [(upd_low h hr ha).1, (upd_low h hr hb).1, upd_bit h hb]
      exact hab
    · intro c hc
      obtain ⟨b, hb, rfl⟩ := List.mem_map.1 hc
      have hl := red_low h v hb
      rw [(upd_low h hr hb).1]
      refine ⟨fun e => ?_, upd_own hr, hl⟩
      rw [e, low_bit hr] at hl
      cases hl
theorem upd_back (r b : Nat) : b = upd r b ∨ b = r ^^^ upd r b := by
  unfold upd
  split
  · right
    rw [xor_mid, Nat.xor_self, Nat.xor_zero]
  · exact .inl rfl
theorem sp_ins {B : List Nat} (h : Red B) (v x : Nat) : Sp (ins B v) x ↔ Sp (v :: B) x := by
  have hc : Sp (v :: B) (comb B v) := (sp_comb B v).mono fun a ha => List.mem_cons_of_mem _ ha
  have hrs : Sp (v :: B) (red B v) := by rw [red_eq h]; exact (Sp.of_mem List.mem_cons_self).xor hc
  unfold ins
  split
  · rename_i hr
    have hv := (red_zero h v).1 hr
    exact ⟨fun k => k.mono fun a ha => List.mem_cons_of_mem _ ha, fun k => k.of fun a ha => by
      rcases List.mem_cons.1 ha with e | ha'
      · rw [e]; exact hv
      · exact .of_mem ha'⟩
  · rename_i hr
    have hB : ∀ b ∈ B, Sp (put (red B v) (B.map (upd (red B v)))) b := fun b hb => by
      have h1 : Sp (put (red B v) (B.map (upd (red B v)))) (upd (red B v) b) := .of_mem (mem_put.2 (.inr (List.mem_map.2 ⟨b, hb, rfl⟩)))
      rcases upd_back (red B v) b with e | e
      · rw [e]; exact h1
      · rw [e]; exact (Sp.of_mem (mem_put.2 (.inl rfl))).xor h1
    constructor
    · intro k
      refine k.of fun a ha => ?_
      rcases mem_put.1 ha with e | ha'
      · rw [e]; exact hrs
      · obtain ⟨b, hb, rfl⟩ := List.mem_map.1 ha'
        have hbs : Sp (v :: B) b := .of_mem (List.mem_cons_of_mem _ hb)
        unfold upd
        split
        · exact hbs.xor hrs
        · exact hbs
    · intro k
      refine k.of fun a ha => ?_
      rcases List.mem_cons.1 ha with e | ha'
      · have hv : v = red B v ^^^ comb B v := by rw [red_eq h, xor_back]
        have hx := (Sp.of_mem (mem_put.2 (.inl rfl))).xor ((sp_comb B v).of hB)
        rw [← hv] at hx
        rw [e]
        exact hx
      · exact hB a ha'
theorem ins_length (B : List Nat) (v : Nat) : (ins B v).length ≤ B.length + 1 := by
  unfold ins
  split
  · omega
  · rw [put_length, List.length_map]; exact Nat.le_refl _

def basis (l : List Nat) : List Nat := l.foldl ins []
theorem foldl_ins : ∀ (l B : List Nat), Red B → Red (l.foldl ins B) ∧ (∀ x, Sp (l.foldl ins B) x ↔ Sp (B ++ l) x) ∧ (l.foldl ins B).length ≤ B.length + l.length
  | [], B, h => ⟨h, fun x => by simp, by simp⟩
  | v :: l, B, h => by
    obtain ⟨h1, h2, h3⟩ := foldl_ins l (ins B v) (h.ins v)
    refine ⟨h1, fun x => ?_, ?_⟩
    · show Sp (l.foldl ins (ins B v)) x ↔ _
      rw [h2]
      constructor
      · intro k
        refine k.of fun a ha => ?_
        rcases List.mem_append.1 ha with ha | ha
        · refine ((sp_ins h v a).1 (.of_mem ha)).mono fun c hc => ?_
          rcases List.mem_cons.1 hc with e | hc
          · rw [e]; simp
          · simp [hc]
        · exact .of_mem (by simp [ha])
      · intro k
        refine k.of fun a ha => ?_
        rcases List.mem_append.1 ha with ha | ha
        · exact ((sp_ins h v a).2 (.of_mem (List.mem_cons_of_mem _ ha))).mono fun c hc => List.mem_append_left _ hc
        · rcases List.mem_cons.1 ha with e | ha
          · rw [e]
            exact ((sp_ins h v v).2 (.of_mem List.mem_cons_self)).mono fun c hc => List.mem_append_left _ hc
          · exact .of_mem (List.mem_append_right _ ha)
    · show (l.foldl ins (ins B v)).length ≤ _
      have := ins_length B v
      simp only [List.length_cons]
      omega
theorem red_basis (l : List Nat) : Red (basis l) := (foldl_ins l [] .nil).1
theorem sp_basis (l : List Nat) (x : Nat) : Sp (basis l) x ↔ Sp l x := (foldl_ins l [] .nil).2.1 x
theorem basis_length (l : List Nat) : (basis l).length ≤ l.length := by
  have h : (l.foldl ins []).length ≤ l.length := by simpa using (foldl_ins l [] .nil).2.2
  exact h

theorem low_comb : ∀ {A : List Nat}, Red A → ∀ {x : Nat}, comb A x ≠ 0 → ∃ a ∈ A, low (comb A x) = low a
  | [], _, x, h => by simp [comb] at h
  | c :: A, h, x, hx => by
    simp only [comb] at hx ⊢
    split
    · have hn := h.1 c List.mem_cons_self
      refine ⟨c, List.mem_cons_self, low_unique ?_ fun j hj => ?_⟩
      · rw [Nat.testBit_xor, low_bit hn, comb_bit_none (h.low_lt (Nat.le_refl _))]; rfl
      · rw [Nat.testBit_xor, low_none hn hj, comb_bit_none (h.low_lt (Nat.le_of_lt hj))]; rfl
    · rename_i hb
      rw [if_neg hb] at hx
      obtain ⟨a, ha, e⟩ := low_comb h.tail hx
      exact ⟨a, List.mem_cons_of_mem _ ha, e⟩
theorem low_sp {A : List Nat} (h : Red A) {x : Nat} (k : Sp A x) (hx : x ≠ 0) : ∃ a ∈ A, low x = low a := by
  have e := comb_sp h k
  have := low_comb h (x := x) (by rw [e]; exact hx)
  rwa [e] at this
theorem uniq_sub {A B : List Nat} (hA : Red A) (hB : Red B) (hs : ∀ x, Sp A x ↔ Sp B x) : ∀ a ∈ A, a ∈ B := by
  intro a ha
  obtain ⟨b, hb, hab⟩ := low_sp hB ((hs a).1 (.of_mem ha)) (hA.1 a ha)
  have hy : Sp A (a ^^^ b) := (Sp.of_mem ha).xor ((hs b).2 (.of_mem hb))
  have h0 : comb A (a ^^^ b) = 0 := by
    refine comb_none fun c hc => ?_
    rw [Nat.testBit_xor]
    by_cases e : a = c
    · subst e
      rw [low_bit (hA.1 a ha), hab, low_bit (hB.1 b hb)]; rfl
    · obtain ⟨d, hd, hcd⟩ := low_sp hB ((hs c).1 (.of_mem hc)) (hA.1 c hc)
      have h1 := hA.two ha hc e
      have hne : b ≠ d := by
        rintro rfl
        exact h1.1 (hab.trans hcd.symm)
      rw [h1.2, hcd, (hB.two hb hd hne).2]; rfl
  rw [comb_sp hA hy] at h0
  rw [eq_of_xor h0]
  exact hb
theorem eq_of_rise : ∀ {A B : List Nat}, Red A → Red B → (∀ x, x ∈ A ↔ x ∈ B) → A = B
  | [], [], _, _, _ => rfl
  | [], b :: B, _, _, h => by have := (h b).2 List.mem_cons_self; cases this
  | a :: A, [], _, _, h => by have := (h a).1 List.mem_cons_self; cases this
  | a :: A, b :: B, hA, hB, h => by
    have e : a = b := by
      rcases List.mem_cons.1 ((h a).1 List.mem_cons_self) with e | h1
      · exact e
      · rcases List.mem_cons.1 ((h b).2 List.mem_cons_self) with e | h2
        · exact e.symm
        · have h3 := (hB.head a h1).1
          have h4 := (hA.head b h2).1
          omega
    subst e
    have hna : a ∉ A := fun k => by have := (hA.head a k).1; omega
    have hnb : a ∉ B := fun k => by have := (hB.head a k).1; omega
    rw [eq_of_rise hA.tail hB.tail fun x => ?_]
    constructor
    · intro k
      rcases List.mem_cons.1 ((h x).1 (List.mem_cons_of_mem _ k)) with e | k'
      · rw [e] at k; exact absurd k hna
      · exact k'
    · intro k
      rcases List.mem_cons.1 ((h x).2 (List.mem_cons_of_mem _ k)) with e | k'
      · rw [e] at k; exact absurd k hnb
      · exact k'
/-- A basis is one. -/
theorem uniq {A B : List Nat} (hA : Red A) (hB : Red B) (hs : ∀ x, Sp A x ↔ Sp B x) : A = B :=
  eq_of_rise hA hB fun x => ⟨uniq_sub hA hB hs x, uniq_sub hB hA (fun y => (hs y).symm) x⟩
theorem basis_same {l m : List Nat} (h : ∀ x, x ∈ l ↔ x ∈ m) : basis l = basis m :=
  uniq (red_basis l) (red_basis m) fun x => by
    rw [sp_basis, sp_basis]
    exact ⟨fun k => k.mono fun a ha => (h a).1 ha, fun k => k.mono fun a ha => (h a).2 ha⟩
end Go.Proofs.YtfimbbiholllhaaDoor.Ech
namespace Go.Proofs.YtfimbbiholllhaaDoor
open Go.RowKit
set_option linter.unusedVariables false
set_option maxRecDepth 4000

/-- The bits of a row as one number. -/
def val : List Nat → Nat
  | [] => 0
  | x :: r => 2 ^ 64 * val r + x
theorem smalls.tail {x : Nat} {r : List Nat} (h : smalls (x :: r)) : smalls r := fun y hy => h y (List.mem_cons_of_mem _ hy)
theorem smalls.nil : smalls [] := fun _ h => by cases h
theorem val_bit : ∀ {xs : List Nat}, smalls xs → ∀ i, (val xs).testBit i = getB xs i
  | [], _, i => by simp [val, getB]
  | x :: r, h, i => by
    have hx : x < 2 ^ 64 := h x List.mem_cons_self
    rw [val, Nat.testBit_two_pow_mul_add _ hx]
    unfold getB
    by_cases hi : i < 64
    · rw [if_pos hi, show i / 64 = 0 by omega, show i % 64 = i by omega]; rfl
    · rw [if_neg hi, val_bit h.tail, getB, show i / 64 = (i - 64) / 64 + 1 by omega, show i % 64 = (i - 64) % 64 by omega]; rfl
theorem bit_xorL (a b : List Nat) (i : Nat) : getB (xorL a b) i = (getB a i ^^ getB b i) := by
  unfold getB
  rw [xorL_getD, Nat.testBit_xor]
theorem val_xor {a b : List Nat} (ha : smalls a) (hb : smalls b) : val (xorL a b) = val a ^^^ val b := by
  apply Nat.eq_of_testBit_eq
  intro i
  rw [val_bit (xorL_small ha hb), bit_xorL, Nat.testBit_xor, val_bit ha, val_bit hb]
theorem val_zero {xs : List Nat} : val xs = 0 ↔ ∀ x ∈ xs, x = 0 := by
  induction xs with
  | nil => simp [val]
  | cons x r ih =>
    rw [val]
    constructor
    · intro h y hy
      rcases List.mem_cons.1 hy with e | hy
      · omega
      · exact ih.1 (by omega) y hy
    · intro h
      have h0 := h x List.mem_cons_self
      have h1 := ih.2 fun y hy => h y (List.mem_cons_of_mem _ hy)
      omega
theorem firstI_look : ∀ (xs : List Nat), 0 ≤ firstI xs → ∃ k, k < xs.length ∧ (∀ j, j < k → xs.getD j 0 = 0) ∧ xs.getD k 0 ≠ 0 ∧ firstI xs = (k : Int) * 64 + Lib.ctz 64 (xs.getD k 0)
  | [], h => by simp [firstI] at h
  | x :: r, h => by
    by_cases hx : x = 0
    · have hr : 0 ≤ firstI r := by
        simp only [firstI, hx] at h
        split at h
        · omega
        · split at h
          · omega
          · omega
      obtain ⟨k, hk, hz, hne, he⟩ := firstI_look r hr
      have hz' : ∀ j, j < k + 1 → (x :: r).getD j 0 = 0 := by
        intro j hj
        cases j with
        | zero => simpa using hx
        | succ j => simpa using hz j (by omega)
      have hk' : k + 1 < (x :: r).length := by simpa using hk
      have hne' : (x :: r).getD (k + 1) 0 ≠ 0 := by simpa using hne
      exact ⟨k + 1, hk', hz', hne', firstI_at _ _ hk' hz' hne'⟩
    · have hk' : 0 < (x :: r).length := by simp
      have hne' : (x :: r).getD 0 0 ≠ 0 := by simpa using hx
      exact ⟨0, hk', fun j hj => by omega, hne', firstI_at _ _ hk' (fun j hj => by omega) hne'⟩
/-- The first bit of a row as the number's lowest one. -/
theorem firstI_val {xs : List Nat} (hs : smalls xs) : firstI xs = if val xs = 0 then -1 else (Ech.low (val xs) : Int) := by
  rcases firstI_cases xs with h | h
  · have h1 := val_zero.2 ((firstI_nonneg_iff xs).1 (by omega))
    rw [h, if_pos h1]
  · obtain ⟨k, hk, hz, hne, he⟩ := firstI_look xs h
    have hx := hs.get k
    have hc := ctz_lt (xs.getD k 0) hne hx
    have hb := ctz_bit (xs.getD k 0) hne hx
    have hl := fun j hj => ctz_low (xs.getD k 0) j hne hx hj
    generalize Lib.ctz 64 (xs.getD k 0) = t at *
    have h1 : (val xs).testBit (64 * k + t) = true := by rw [val_bit hs, getB_at xs k t hc]; exact hb
    have h2 : ∀ j, j < 64 * k + t → (val xs).testBit j = false := fun i hi => by
      rw [val_bit hs]
      unfold getB
      by_cases e : i / 64 < k
      · rw [hz _ e]; simp
      · rw [show i / 64 = k by omega]; exact hl _ (by omega)
    rw [if_neg (Ech.ne_of_bit h1), Ech.low_unique h1 h2, he]
    omega
theorem firstI_le {xs : List Nat} (hs : smalls xs) : firstI xs < 64 * (xs.length : Int) ∧ -1 ≤ firstI xs := by
  rcases firstI_cases xs with h | h
  · omega
  · obtain ⟨k, hk, hz, hne, he⟩ := firstI_look xs h
    have hc := ctz_lt (xs.getD k 0) hne (hs.get k)
    omega
theorem firstI_neg {xs : List Nat} (hs : smalls xs) : firstI xs < 0 ↔ val xs = 0 := by
  rw [firstI_val hs]
  split
  · rename_i h; simp [h]
  · rename_i h
    constructor
    · intro k; omega
    · intro k; exact absurd k h
theorem getI_val {xs ys : List Nat} (hx : smalls xs) (hy : smalls ys) : getI xs (firstI ys) = (decide (val ys ≠ 0) && (val xs).testBit (Ech.low (val ys))) := by
  rw [firstI_val hy]
  split
  · rename_i h; simp [h, getI]
  · rename_i h
    rw [getI_nat, val_bit hx]
    simp [h]
theorem getI_neg (xs : List Nat) (i : Int) (h : i < 0) : getI xs i = false := by unfold getI; rw [if_pos h]

/-- A row with what b's first bit takes. -/
def stepL (r b : List Nat) : List Nat := if getI r (firstI b) = true then xorL r b else r
def reduceL (B : List (List Nat)) (v : List Nat) : List Nat := B.foldl stepL v
theorem step_small {r b : List Nat} (hr : smalls r) (hb : smalls b) : smalls (stepL r b) := by
  unfold stepL
  split
  · exact xorL_small hr hb
  · exact hr
theorem step_val {r b : List Nat} (hr : smalls r) (hb : smalls b) : val (stepL r b) = if val b ≠ 0 ∧ (val r).testBit (Ech.low (val b)) = true then val r ^^^ val b else val r := by
  unfold stepL
  rw [getI_val hr hb]
  by_cases h1 : val b = 0
  · simp [h1]
  · by_cases h2 : (val r).testBit (Ech.low (val b)) = true
    · simp [h1, h2, val_xor hr hb]
    · simp [h1, h2]
theorem step_length (r b : List Nat) (M : Nat) (hr : r.length ≤ M) (hb : b.length ≤ M) : (stepL r b).length ≤ M := by
  unfold stepL
  split
  · rw [xorL_length]; omega
  · exact hr
/-- Rows whose words are words, and which have at most M of them. -/
def Fit (M : Nat) (B : List (List Nat)) : Prop := ∀ b ∈ B, smalls b ∧ b.length ≤ M
theorem Fit.nil (M : Nat) : Fit M [] := fun _ h => by cases h
theorem Fit.tail {M : Nat} {b : List Nat} {B : List (List Nat)} (h : Fit M (b :: B)) : Fit M B := fun a ha => h a (List.mem_cons_of_mem _ ha)
theorem reduce_small {M : Nat} : ∀ {B : List (List Nat)}, Fit M B → ∀ {v : List Nat}, smalls v → v.length ≤ M → smalls (reduceL B v) ∧ (reduceL B v).length ≤ M
  | [], _, v, hv, hl => ⟨hv, hl⟩
  | b :: B, h, v, hv, hl => by
    have hb := h b List.mem_cons_self
    exact reduce_small h.tail (step_small hv hb.1) (step_length v b M hl hb.2)
theorem reduce_val {M : Nat} : ∀ {B : List (List Nat)}, Fit M B → ∀ {v : List Nat}, smalls v → val (reduceL B v) = Ech.red (B.map val) (val v)
  | [], _, v, hv => rfl
  | b :: B, h, v, hv => by
    have hb := h b List.mem_cons_self
    show val (reduceL B (stepL v b)) = Ech.red (B.map val) _
    rw [reduce_val h.tail (step_small hv hb.1), step_val hv hb.1]
theorem reduce_take {B : List (List Nat)} {v : List Nat} {k : Nat} (h : k < B.length) : reduceL (B.take (k + 1)) v = stepL (reduceL (B.take k) v) (B.getD k []) := by
  unfold reduceL
  rw [List.take_succ_eq_append_getElem h, List.foldl_append]
  simp [List.getD_eq_getElem?_getD, List.getElem?_eq_getElem h]
theorem reduce_all {B : List (List Nat)} {v : List Nat} {k : Nat} (h : B.length ≤ k) : reduceL (B.take k) v = reduceL B v := by rw [List.take_of_length_le h]

/-- The place of the first row whose first bit is greater than f; how many rows, if there is none. -/
def idxL (f : Int) : List (List Nat) → Nat
  | [] => 0
  | b :: B => if f < firstI b then 0 else idxL f B + 1
theorem idxL_le (f : Int) : ∀ B, idxL f B ≤ B.length
  | [] => Nat.le_refl _
  | b :: B => by
    simp only [idxL]
    split
    · exact Nat.zero_le _
    · have := idxL_le f B; simp only [List.length_cons]; omega
theorem idxL_low (f : Int) : ∀ (B : List (List Nat)) (j : Nat), j < idxL f B → ¬ f < firstI (B.getD j [])
  | [], j, h => by simp [idxL] at h
  | b :: B, j, h => by
    simp only [idxL] at h
    split at h
    · omega
    · rename_i hb
      cases j with
      | zero => simpa using hb
      | succ j => simpa using idxL_low f B j (by omega)
theorem idxL_at (f : Int) : ∀ (B : List (List Nat)), idxL f B < B.length → f < firstI (B.getD (idxL f B) [])
  | [], h => by simp [idxL] at h
  | b :: B, h => by
    simp only [idxL] at h ⊢
    split
    · rename_i hb; simpa using hb
    · rename_i hb
      rw [if_neg hb] at h
      simpa using idxL_at f B (by simpa using h)
theorem idxL_of (f : Int) (B : List (List Nat)) (k : Nat) (hk : k ≤ B.length) (h : ∀ j, j < k → ¬ f < firstI (B.getD j [])) (h2 : k < B.length → f < firstI (B.getD k [])) : idxL f B = k := by
  have hle := idxL_le f B
  rcases Nat.lt_trichotomy (idxL f B) k with h1 | h1 | h1
  · exact absurd (idxL_at f B (by omega)) (h _ h1)
  · exact h1
  · exact absurd (h2 (by omega)) (idxL_low f B k h1)
/-- r at place p. -/
def insAt (r : List Nat) (p : Nat) (C : List (List Nat)) : List (List Nat) := C.take p ++ r :: C.drop p
theorem insAt_length (r : List Nat) (p : Nat) (C : List (List Nat)) (h : p ≤ C.length) : (insAt r p C).length = C.length + 1 := by
  simp [insAt]; omega
theorem insAt_mem {r : List Nat} {p : Nat} {C : List (List Nat)} {x : List Nat} : x ∈ insAt r p C ↔ x = r ∨ x ∈ C := by
  unfold insAt
  rw [List.mem_append, List.mem_cons]
  constructor
  · rintro (h | h | h)
    · exact .inr (List.mem_of_mem_take h)
    · exact .inl h
    · exact .inr (List.mem_of_mem_drop h)
  · rintro (h | h)
    · exact .inr (.inl h)
    · rw [← List.take_append_drop p C, List.mem_append] at h
      rcases h with h | h
      · exact .inl h
      · exact .inr (.inr h)
theorem lt_first {a b : List Nat} (ha : smalls a) (hb : smalls b) (h : val a ≠ 0) : firstI a < firstI b ↔ Ech.low (val a) < Ech.low (val b) := by
  rw [firstI_val ha, firstI_val hb, if_neg h]
  split
  · rename_i h0
    rw [h0]
    have : Ech.low 0 = 0 := rfl
    omega
  · omega
theorem put_val {M : Nat} {r : List Nat} (hr : smalls r) (h0 : val r ≠ 0) : ∀ {C : List (List Nat)}, Fit M C → (insAt r (idxL (firstI r) C) C).map val = Ech.put (val r) (C.map val)
  | [], _ => rfl
  | c :: C, h => by
    have hc := h c List.mem_cons_self
    have hl := lt_first hr hc.1 h0
    simp only [idxL, List.map_cons, Ech.put]
    by_cases hlt : firstI r < firstI c
    · rw [if_pos hlt, if_pos (hl.1 hlt)]; rfl
    · rw [if_neg hlt, if_neg (fun k => hlt (hl.2 k)), ← put_val hr h0 h.tail]; rfl
/-- Add of echelon, and the reference's. -/
def insertL (B : List (List Nat)) (v : List Nat) : List (List Nat) :=
  if firstI (reduceL B v) < 0 then B else insAt (reduceL B v) (idxL (firstI (reduceL B v)) (B.map fun b => stepL b (reduceL B v))) (B.map fun b => stepL b (reduceL B v))
def raddL (B : List (List Nat)) (v : List Nat) : List (List Nat) :=
  if firstI (reduceL B v) < 0 then B else insAt (reduceL B v) (idxL (firstI (reduceL B v)) B) (B.map fun b => stepL b (reduceL B v))
theorem Fit.map {M : Nat} {B : List (List Nat)} (h : Fit M B) {r : List Nat} (hr : smalls r) (hl : r.length ≤ M) : Fit M (B.map fun b => stepL b r) := by
  intro x hx
  obtain ⟨b, hb, rfl⟩ := List.mem_map.1 hx
  exact ⟨step_small (h b hb).1 hr, step_length b r M (h b hb).2 hl⟩
theorem Fit.insert {M : Nat} {B : List (List Nat)} (h : Fit M B) {v : List Nat} (hv : smalls v) (hl : v.length ≤ M) : Fit M (insertL B v) := by
  obtain ⟨h1, h2⟩ := reduce_small h hv hl
  unfold insertL
  split
  · exact h
  · intro x hx
    rcases insAt_mem.1 hx with e | hx
    · rw [e]; exact ⟨h1, h2⟩
    · exact h.map h1 h2 x hx
theorem insert_length (B : List (List Nat)) (v : List Nat) : (insertL B v).length ≤ B.length + 1 := by
  unfold insertL
  split
  · omega
  · rw [insAt_length _ _ _ (idxL_le _ _), List.length_map]; exact Nat.le_refl _
theorem map_val {M : Nat} {B : List (List Nat)} (h : Fit M B) {r : List Nat} (hr : smalls r) (h0 : val r ≠ 0) : (B.map fun b => stepL b r).map val = (B.map val).map (Ech.upd (val r)) := by
  rw [List.map_map, List.map_map]
  apply List.map_congr_left
  intro b hb
  show val (stepL b r) = Ech.upd (val r) (val b)
  rw [step_val (h b hb).1 hr]
  unfold Ech.upd
  by_cases hbit : (val b).testBit (Ech.low (val r)) = true
  · rw [if_pos ⟨h0, hbit⟩, if_pos hbit]
  · rw [if_neg (fun k => hbit k.2), if_neg hbit]
theorem insert_val {M : Nat} {B : List (List Nat)} (h : Fit M B) {v : List Nat} (hv : smalls v) (hl : v.length ≤ M) : (insertL B v).map val = Ech.ins (B.map val) (val v) := by
  obtain ⟨h1, h2⟩ := reduce_small h hv hl
  unfold insertL Ech.ins
  rw [← reduce_val h hv]
  by_cases h0 : val (reduceL B v) = 0
  · rw [if_pos ((firstI_neg h1).2 h0), if_pos h0]
  · rw [if_neg (fun k => h0 ((firstI_neg h1).1 k)), if_neg h0, put_val h1 h0 (h.map h1 h2), map_val h h1 h0]
theorem idxL_congr (f : Int) : ∀ {B C : List (List Nat)}, B.map firstI = C.map firstI → idxL f B = idxL f C
  | [], [], _ => rfl
  | [], c :: C, h => by simp at h
  | b :: B, [], h => by simp at h
  | b :: B, c :: C, h => by
    simp only [List.map_cons, List.cons.injEq] at h
    simp only [idxL, h.1, idxL_congr f h.2]
/-- On a basis the two are one. -/
theorem radd_eq {M : Nat} {B : List (List Nat)} (h : Fit M B) (hR : Ech.Red (B.map val)) {v : List Nat} (hv : smalls v) (hl : v.length ≤ M) : raddL B v = insertL B v := by
  obtain ⟨h1, h2⟩ := reduce_small h hv hl
  unfold raddL insertL
  by_cases h0 : firstI (reduceL B v) < 0
  · rw [if_pos h0, if_pos h0]
  · rw [if_neg h0, if_neg h0]
    have h0' : val (reduceL B v) ≠ 0 := fun k => h0 ((firstI_neg h1).2 k)
    rw [idxL_congr (B := B) (C := B.map fun b => stepL b (reduceL B v))]
    rw [List.map_map]
    apply List.map_congr_left
    intro b hb
    show firstI b = firstI (stepL b (reduceL B v))
    have hu := Ech.upd_low hR (v := val v) (b := val b) (by rw [← reduce_val h hv]; exact h0') (List.mem_map.2 ⟨b, hb, rfl⟩)
    have he : val (stepL b (reduceL B v)) = Ech.upd (Ech.red (B.map val) (val v)) (val b) := by
      rw [← reduce_val h hv, step_val (h b hb).1 h1]
      unfold Ech.upd
      by_cases hbit : (val b).testBit (Ech.low (val (reduceL B v))) = true
      · rw [if_pos ⟨h0', hbit⟩, if_pos hbit]
      · rw [if_neg (fun k => hbit k.2), if_neg hbit]
    rw [firstI_val (h b hb).1, firstI_val (step_small (h b hb).1 h1), he, if_neg hu.2, hu.1, if_neg (hR.1 _ (List.mem_map.2 ⟨b, hb, rfl⟩))]

def basisL (l : List (List Nat)) : List (List Nat) := l.foldl insertL []
def rbasisL (l : List (List Nat)) : List (List Nat) := l.foldl raddL []
theorem foldl_basis {M : Nat} : ∀ (l B : List (List Nat)), Fit M l → Fit M B → Ech.Red (B.map val) → Fit M (l.foldl insertL B) ∧ (l.foldl insertL B).map val = (l.map val).foldl Ech.ins (B.map val) ∧ l.foldl raddL B = l.foldl insertL B ∧ (l.foldl insertL B).length ≤ B.length + l.length
  | [], B, _, hB, _ => ⟨hB, rfl, rfl, by simp⟩
  | v :: l, B, hl, hB, hR => by
    have hv := hl v List.mem_cons_self
    have hi := insert_val hB hv.1 hv.2
    obtain ⟨h1, h2, h3, h4⟩ := foldl_basis l (insertL B v) hl.tail (hB.insert hv.1 hv.2) (by rw [hi]; exact hR.ins _)
    refine ⟨h1, ?_, ?_, ?_⟩
    · show (l.foldl insertL (insertL B v)).map val = _
      rw [h2, hi]; rfl
    · show l.foldl raddL (raddL B v) = l.foldl insertL (insertL B v)
      rw [radd_eq hB hR hv.1 hv.2, h3]
    · show (l.foldl insertL (insertL B v)).length ≤ _
      have := insert_length B v
      simp only [List.length_cons]
      omega
theorem basis_fit {M : Nat} {l : List (List Nat)} (h : Fit M l) : Fit M (basisL l) := (foldl_basis l [] h (.nil M) .nil).1
theorem basis_val {M : Nat} {l : List (List Nat)} (h : Fit M l) : (basisL l).map val = Ech.basis (l.map val) := (foldl_basis l [] h (.nil M) .nil).2.1
theorem basis_red {M : Nat} {l : List (List Nat)} (h : Fit M l) : Ech.Red ((basisL l).map val) := by rw [basis_val h]; exact Ech.red_basis _
theorem rbasis_eq {M : Nat} {l : List (List Nat)} (h : Fit M l) : rbasisL l = basisL l := (foldl_basis l [] h (.nil M) .nil).2.2.1
theorem basis_len {M : Nat} {l : List (List Nat)} (h : Fit M l) : (basisL l).length ≤ l.length := by
  have h1 : (l.foldl insertL []).length ≤ l.length := by simpa using (foldl_basis l [] h (.nil M) .nil).2.2.2
  exact h1
theorem Fit.take {M : Nat} {B : List (List Nat)} (h : Fit M B) (k : Nat) : Fit M (B.take k) := fun b hb => h b (List.mem_of_mem_take hb)
theorem basis_take {l : List (List Nat)} {k : Nat} (h : k < l.length) : basisL (l.take (k + 1)) = insertL (basisL (l.take k)) (l.getD k []) := by
  unfold basisL
  rw [List.take_succ_eq_append_getElem h, List.foldl_append]
  simp [List.getD_eq_getElem?_getD, List.getElem?_eq_getElem h]
theorem rbasis_take {l : List (List Nat)} {k : Nat} (h : k < l.length) : rbasisL (l.take (k + 1)) = raddL (rbasisL (l.take k)) (l.getD k []) := by
  unfold rbasisL
  rw [List.take_succ_eq_append_getElem h, List.foldl_append]
  simp [List.getD_eq_getElem?_getD, List.getElem?_eq_getElem h]

/-- Rows one by one the same, up to words of 0 at their ends. -/
def SameR (A B : List (List Nat)) : Prop := A.length = B.length ∧ ∀ i, i < A.length → cnt (xorL (A.getD i []) (B.getD i [])) = 0
theorem SameR.refl (A : List (List Nat)) : SameR A A := ⟨rfl, fun i _ => cnt_of_zero _ (xorL_self_zero _)⟩
theorem Fit.getD {M : Nat} {B : List (List Nat)} (h : Fit M B) (i : Nat) : smalls (B.getD i []) ∧ (B.getD i []).length ≤ M := by
  rw [List.getD_eq_getElem?_getD]
  cases hx : B[i]? with
  | none => exact ⟨smalls.nil, Nat.zero_le _⟩
  | some x => exact h x (List.mem_of_getElem? hx)
theorem SameR.of_val {M : Nat} {A B : List (List Nat)} (hA : Fit M A) (hB : Fit M B) (h : A.map val = B.map val) : SameR A B := by
  have hl : A.length = B.length := by simpa using congrArg List.length h
  refine ⟨hl, fun i hi => ?_⟩
  have hi' : i < B.length := by omega
  have h1 : val (A.getD i []) = val (B.getD i []) := by
    have h2 := congrArg (fun l => l.getD i 0) h
    simpa [List.getD_eq_getElem?_getD, List.getElem?_eq_getElem hi, List.getElem?_eq_getElem hi'] using h2
  apply cnt_of_zero
  rw [← val_zero, val_xor (hA.getD i).1 (hB.getD i).1, h1, Nat.xor_self]
/-- Rows that are the same ones have one basis. -/
theorem basis_order {M : Nat} {l m : List (List Nat)} (hl : Fit M l) (h : ∀ x, x ∈ m ↔ x ∈ l) : SameR (basisL m) (basisL l) := by
  have hm : Fit M m := fun b hb => hl b ((h b).1 hb)
  refine SameR.of_val (basis_fit hm) (basis_fit hl) ?_
  rw [basis_val hm, basis_val hl]
  refine Ech.basis_same fun x => ?_
  simp only [List.mem_map]
  exact ⟨fun ⟨a, ha, e⟩ => ⟨a, (h a).1 ha, e⟩, fun ⟨a, ha, e⟩ => ⟨a, (h a).2 ha, e⟩⟩
/-- Each row is in the span of a basis of all, and the xor of any two. -/
theorem basis_in {M : Nat} {l : List (List Nat)} (h : Fit M l) {v : List Nat} (hv : v ∈ l) : firstI (reduceL (basisL l) v) < 0 := by
  have hs := h v hv
  rw [firstI_neg (reduce_small (basis_fit h) hs.1 hs.2).1, reduce_val (basis_fit h) hs.1, Ech.red_zero (basis_red h), basis_val h, Ech.sp_basis]
  exact .of_mem (List.mem_map.2 ⟨v, hv, rfl⟩)
theorem basis_in2 {M : Nat} {l : List (List Nat)} (h : Fit M l) {v u : List Nat} (hv : v ∈ l) (hu : u ∈ l) : firstI (reduceL (basisL l) (xorL v u)) < 0 := by
  have hs := h v hv
  have ht := h u hu
  have hx : smalls (xorL v u) := xorL_small hs.1 ht.1
  have hxl : (xorL v u).length ≤ M := by rw [xorL_length]; omega
  rw [firstI_neg (reduce_small (basis_fit h) hx hxl).1, reduce_val (basis_fit h) hx, Ech.red_zero (basis_red h), basis_val h, Ech.sp_basis, val_xor hs.1 ht.1]
  exact (Ech.Sp.of_mem (List.mem_map.2 ⟨v, hv, rfl⟩)).xor (Ech.Sp.of_mem (List.mem_map.2 ⟨u, hu, rfl⟩))
/-- A basis' first bits rise, and none of them is in another one of its rows. -/
theorem basis_rises {M : Nat} {l : List (List Nat)} (h : Fit M l) {i : Nat} (hi : i < (basisL l).length) :
    0 ≤ firstI ((basisL l).getD i []) ∧ (0 < i → firstI ((basisL l).getD (i - 1) []) < firstI ((basisL l).getD i [])) ∧ ∀ k, k < (basisL l).length → k ≠ i → getI ((basisL l).getD k []) (firstI ((basisL l).getD i [])) = false := by
  have hf := basis_fit h
  have hR := basis_red h
  have hp := List.pairwise_iff_getElem.1 hR.2
  have hnz : ∀ j, j < (basisL l).length → val ((basisL l).getD j []) ≠ 0 := fun j hj => by
    refine hR.1 _ (List.mem_map.2 ⟨_, ?_, rfl⟩)
    simp [List.getD_eq_getElem?_getD, List.getElem?_eq_getElem hj]
  have hpair : ∀ j k, j < k → k < (basisL l).length → Ech.low (val ((basisL l).getD j [])) < Ech.low (val ((basisL l).getD k [])) ∧ (val ((basisL l).getD j [])).testBit (Ech.low (val ((basisL l).getD k []))) = false := fun j k hjk hk => by
    have := hp j k (by simpa using Nat.lt_trans hjk hk) (by simpa using hk) hjk
    simpa [List.getD_eq_getElem?_getD, List.getElem?_eq_getElem hk, List.getElem?_eq_getElem (Nat.lt_trans hjk hk)] using this
  have hfi : ∀ j, j < (basisL l).length → firstI ((basisL l).getD j []) = (Ech.low (val ((basisL l).getD j [])) : Int) := fun j hj => by rw [firstI_val (hf.getD j).1, if_neg (hnz j hj)]
  refine ⟨by rw [hfi i hi]; omega, fun h0 => ?_, fun k hk hki => ?_⟩
  · rw [hfi i hi, hfi (i - 1) (by omega)]
    have := (hpair (i - 1) i (by omega) hi).1
    omega
  · rw [getI_val (hf.getD k).1 (hf.getD i).1]
    rcases Nat.lt_or_gt_of_ne hki with h1 | h1
    · rw [(hpair k i h1 hi).2]; simp
    · rw [Ech.low_none (hnz k hk) (hpair i k h1 hk).1]; simp
end Go.Proofs.YtfimbbiholllhaaDoor
namespace Go.Proofs.YtfimbbiholllhaaDoor.Ech

/-- Rows of which none has the lowest bit of one ahead. -/
def Tri (B : List Nat) : Prop := (∀ b ∈ B, b ≠ 0) ∧ B.Pairwise fun a b => b.testBit (low a) = false
theorem Red.tri {B : List Nat} (h : Red B) : Tri B := by
  refine ⟨h.1, List.Pairwise.imp_of_mem ?_ h.2⟩
  intro a b ha hb hab
  exact low_none (h.1 b hb) hab.1
theorem Tri.nil : Tri [] := ⟨(fun _ h => by cases h), List.Pairwise.nil⟩
theorem Tri.tail {b : Nat} {B : List Nat} (h : Tri (b :: B)) : Tri B := ⟨fun a ha => h.1 a (List.mem_cons_of_mem _ ha), (List.pairwise_cons.1 h.2).2⟩
theorem Tri.head {b : Nat} {B : List Nat} (h : Tri (b :: B)) : ∀ a ∈ B, a.testBit (low b) = false := (List.pairwise_cons.1 h.2).1
theorem Tri.snoc {B : List Nat} {r : Nat} (h : Tri B) (hr : r ≠ 0) (hl : ∀ b ∈ B, r.testBit (low b) = false) : Tri (B ++ [r]) := by
  refine ⟨fun a ha => ?_, List.pairwise_append.2 ⟨h.2, by simp, fun a ha b hb => ?_⟩⟩
  · rcases List.mem_append.1 ha with ha | ha
    · exact h.1 a ha
    · rw [List.mem_singleton.1 ha]; exact hr
  · rw [List.mem_singleton.1 hb]; exact hl a ha
theorem sp_nil {x : Nat} (h : Sp [] x) : x = 0 := Sp.ind (B := []) (P := fun x => x = 0) rfl (fun b x hb _ => by cases hb) h
theorem sp_cons {b x : Nat} {B : List Nat} (h : Sp (b :: B) x) : Sp B x ∨ Sp B (b ^^^ x) := by
  refine Sp.ind (P := fun x => Sp B x ∨ Sp B (b ^^^ x)) (.inl .zero) (fun c x hc ih => ?_) h
  rcases List.mem_cons.1 hc with e | hc
  · subst e
    rcases ih with ih | ih
    · right
      rw [← Nat.xor_assoc, Nat.xor_self, Nat.zero_xor]; exact ih
    · exact .inl ih
  · rcases ih with ih | ih
    · exact .inl (.add hc ih)
    · right
      rw [xor_mid]
      exact .add hc ih
theorem sp_bit {B : List Nat} {i x : Nat} (h : ∀ b ∈ B, b.testBit i = false) (k : Sp B x) : x.testBit i = false := by
  refine Sp.ind (P := fun x => x.testBit i = false) (Nat.zero_testBit _) (fun b x hb ih => ?_) k
  rw [Nat.testBit_xor, h b hb, ih]; rfl
theorem tri_none : ∀ {B : List Nat}, Tri B → ∀ {x : Nat}, Sp B x → (∀ b ∈ B, x.testBit (low b) = false) → x = 0
  | [], _, x, k, _ => sp_nil k
  | b :: B, h, x, k, hl => by
    rcases sp_cons k with k1 | k1
    · exact tri_none h.tail k1 fun a ha => hl a (List.mem_cons_of_mem _ ha)
    · have h1 := sp_bit h.head k1
      rw [Nat.testBit_xor, low_bit (h.1 b List.mem_cons_self), hl b List.mem_cons_self] at h1
      cases h1
theorem tri_red : ∀ {B : List Nat}, Tri B → ∀ v : Nat, (∀ b ∈ B, (red B v).testBit (low b) = false) ∧ Sp B (v ^^^ red B v)
  | [], _, v => ⟨(fun _ h => by cases h), by show Sp [] (v ^^^ v); rw [Nat.xor_self]; exact .zero⟩
  | b :: B, h, v => by
    have hb := h.1 b List.mem_cons_self
    have key : ∀ v' : Nat, v'.testBit (low b) = false → Sp (b :: B) (v ^^^ v') → (∀ a ∈ b :: B, (red B v').testBit (low a) = false) ∧ Sp (b :: B) (v ^^^ red B v') := fun v' h1 h2 => by
      obtain ⟨k1, k2⟩ := tri_red h.tail v'
      have h3 := sp_bit h.head k2
      rw [Nat.testBit_xor, h1] at h3
      refine ⟨fun a ha => ?_, ?_⟩
      · rcases List.mem_cons.1 ha with e | ha
        · rw [e]; simpa using h3
        · exact k1 a ha
      · have := h2.xor (k2.mono fun a ha => List.mem_cons_of_mem _ ha)
        rwa [Nat.xor_assoc, ← Nat.xor_assoc v' v', Nat.xor_self, Nat.zero_xor] at this
    show (∀ a ∈ b :: B, (red B (if b ≠ 0 ∧ v.testBit (low b) = true then v ^^^ b else v)).testBit (low a) = false) ∧ Sp (b :: B) (v ^^^ red B (if b ≠ 0 ∧ v.testBit (low b) = true then v ^^^ b else v))
    by_cases hv : v.testBit (low b) = true
    · rw [if_pos ⟨hb, hv⟩]
      refine key _ (by rw [Nat.testBit_xor, hv, low_bit hb]; rfl) ?_
      rw [← Nat.xor_assoc, Nat.xor_self, Nat.zero_xor]
      exact .of_mem List.mem_cons_self
    · rw [if_neg (fun k => hv k.2)]
      refine key _ (by simpa using hv) ?_
      rw [Nat.xor_self]; exact .zero
theorem sp_swap {B : List Nat} {v r : Nat} (h : Sp B (v ^^^ r)) (k : Sp B v) : Sp B r := by
  have := k.xor h
  rwa [← Nat.xor_assoc, Nat.xor_self, Nat.zero_xor] at this
theorem tri_zero {B : List Nat} (h : Tri B) (v : Nat) : red B v = 0 ↔ Sp B v := by
  obtain ⟨h1, h2⟩ := tri_red h v
  constructor
  · intro e
    rw [e, Nat.xor_zero] at h2
    exact h2
  · intro k
    exact tri_none h (sp_swap h2 k) h1
/-- One row more, as it is left. -/
def addT (B : List Nat) (v : Nat) : List Nat := if red B v = 0 then B else B ++ [red B v]
theorem Tri.addT {B : List Nat} (h : Tri B) (v : Nat) : Tri (addT B v) := by
  unfold Ech.addT
  split
  · exact h
  · rename_i hr; exact h.snoc hr (tri_red h v).1
theorem sp_addT {B : List Nat} (h : Tri B) (v x : Nat) : Sp (addT B v) x ↔ Sp (B ++ [v]) x := by
  have h2 := (tri_red h v).2
  unfold addT
  split
  · rename_i hr
    have hv := (tri_zero h v).1 hr
    refine ⟨fun k => k.mono fun a ha => List.mem_append_left _ ha, fun k => k.of fun a ha => ?_⟩
    rcases List.mem_append.1 ha with ha | ha
    · exact .of_mem ha
    · rw [List.mem_singleton.1 ha]; exact hv
  · constructor
    · intro k
      refine k.of fun a ha => ?_
      rcases List.mem_append.1 ha with ha | ha
      · exact .of_mem (List.mem_append_left _ ha)
      · rw [List.mem_singleton.1 ha]
        exact sp_swap (h2.mono fun a ha => List.mem_append_left _ ha) (.of_mem (by simp))
    · intro k
      refine k.of fun a ha => ?_
      rcases List.mem_append.1 ha with ha | ha
      · exact .of_mem (List.mem_append_left _ ha)
      · rw [List.mem_singleton.1 ha]
        refine sp_swap (v := red B v) ?_ (.of_mem (by simp))
        rw [Nat.xor_comm]
        exact h2.mono fun a ha => List.mem_append_left _ ha
theorem foldl_addT : ∀ (l B : List Nat), Tri B → Tri (l.foldl addT B) ∧ ∀ x, Sp (l.foldl addT B) x ↔ Sp (B ++ l) x
  | [], B, h => ⟨h, fun x => by simp⟩
  | v :: l, B, h => by
    obtain ⟨h1, h2⟩ := foldl_addT l (addT B v) (h.addT v)
    refine ⟨h1, fun x => ?_⟩
    show Sp (l.foldl addT (addT B v)) x ↔ _
    rw [h2]
    constructor
    · intro k
      refine k.of fun a ha => ?_
      rcases List.mem_append.1 ha with ha | ha
      · exact ((sp_addT h v a).1 (.of_mem ha)).mono fun c hc => by
          rcases List.mem_append.1 hc with hc | hc
          · simp [hc]
          · rw [List.mem_singleton.1 hc]; simp
      · exact .of_mem (by simp [ha])
    · intro k
      refine k.of fun a ha => ?_
      rcases List.mem_append.1 ha with ha | ha
      · exact ((sp_addT h v a).2 (.of_mem (by simp [ha]))).mono fun c hc => List.mem_append_left _ hc
      · rcases List.mem_cons.1 ha with e | ha
        · rw [e]
          exact ((sp_addT h v v).2 (.of_mem (by simp))).mono fun c hc => List.mem_append_left _ hc
        · exact .of_mem (List.mem_append_right _ ha)

/-- The xor of those of the first n rows that c's bits tell. -/
def lin (ks : List Nat) (c : Nat) : Nat → Nat
  | 0 => 0
  | n + 1 => lin ks c n ^^^ (if c.testBit n = true then ks.getD n 0 else 0)
theorem lin_congr (ks : List Nat) {c d : Nat} : ∀ n, (∀ i, i < n → c.testBit i = d.testBit i) → lin ks c n = lin ks d n
  | 0, _ => rfl
  | n + 1, h => by simp only [lin]; rw [lin_congr ks n fun i hi => h i (by omega), h n (by omega)]
theorem lin_list {ks ks' : List Nat} (c : Nat) : ∀ n, (∀ i, i < n → ks.getD i 0 = ks'.getD i 0) → lin ks c n = lin ks' c n
  | 0, _ => rfl
  | n + 1, h => by simp only [lin]; rw [lin_list c n fun i hi => h i (by omega), h n (by omega)]
theorem lin_xor (ks : List Nat) (c d : Nat) : ∀ n, lin ks (c ^^^ d) n = lin ks c n ^^^ lin ks d n
  | 0 => by simp [lin]
  | n + 1 => by
    simp only [lin, Nat.testBit_xor, lin_xor ks c d n]
    generalize lin ks c n = x
    generalize lin ks d n = y
    generalize ks.getD n 0 = z
    apply Nat.eq_of_testBit_eq
    intro i
    cases c.testBit n <;> cases d.testBit n <;> simp [Nat.testBit_xor] <;> cases x.testBit i <;> cases y.testBit i <;> cases z.testBit i <;> rfl
theorem lin_zero (ks : List Nat) : ∀ n, lin ks 0 n = 0
  | 0 => rfl
  | n + 1 => by simp [lin, lin_zero ks n]
theorem lin_unit (ks : List Nat) (j : Nat) : ∀ n, lin ks (2 ^ j) n = if j < n then ks.getD j 0 else 0
  | 0 => by simp [lin]
  | n + 1 => by
    simp only [lin]
    rw [lin_unit ks j n, Nat.testBit_two_pow]
    by_cases h1 : j < n
    · have h3 : decide (j = n) = false := by simp; omega
      rw [if_pos h1, if_pos (show j < n + 1 by omega), h3, if_neg (by decide), Nat.xor_zero]
    · rw [if_neg h1]
      by_cases h2 : j = n
      · subst h2
        rw [if_pos (show j < j + 1 by omega), decide_eq_true rfl, if_pos rfl, Nat.zero_xor]
      · have h3 : decide (j = n) = false := by simpa using h2
        rw [if_neg (show ¬ j < n + 1 by omega), h3, if_neg (by decide), Nat.xor_zero]
theorem sp_lin (ks : List Nat) (c : Nat) : ∀ n, n ≤ ks.length → Sp ks (lin ks c n)
  | 0, _ => .zero
  | n + 1, h => by
    simp only [lin]
    refine (sp_lin ks c n (by omega)).xor ?_
    split
    · refine .of_mem ?_
      rw [List.getD_eq_getElem?_getD, List.getElem?_eq_getElem (show n < ks.length by omega)]
      exact List.getElem_mem _
    · exact .zero
theorem lin_of_sp {ks : List Nat} {x : Nat} (h : Sp ks x) : ∃ c, c < 2 ^ ks.length ∧ lin ks c ks.length = x := by
  refine Sp.ind (P := fun x => ∃ c, c < 2 ^ ks.length ∧ lin ks c ks.length = x) ⟨0, Nat.two_pow_pos _, lin_zero _ _⟩ (fun b x hb ih => ?_) h
  obtain ⟨c, hc, rfl⟩ := ih
  obtain ⟨j, hj, rfl⟩ := List.getElem_of_mem hb
  refine ⟨2 ^ j ^^^ c, Nat.xor_lt_two_pow (Nat.pow_lt_pow_right (by decide) hj) hc, ?_⟩
  rw [lin_xor, lin_unit, if_pos hj, List.getD_eq_getElem?_getD, List.getElem?_eq_getElem hj]
  rfl
/-- No choice but the empty one makes nothing. -/
def Ind (ks : List Nat) : Prop := ∀ c, c < 2 ^ ks.length → lin ks c ks.length = 0 → c = 0
theorem Ind.nil : Ind [] := fun c hc _ => by simp at hc; exact hc
theorem lt_of_bit {c n : Nat} (h : c < 2 ^ (n + 1)) (hb : c.testBit n = false) : c < 2 ^ n := by
  rw [Nat.pow_succ] at h
  rw [Nat.testBit_eq_decide_div_mod_eq] at hb
  have h1 : c / 2 ^ n < 2 := Nat.div_lt_of_lt_mul h
  have h2 : c / 2 ^ n = 0 := by
    have h3 : ¬ c / 2 ^ n % 2 = 1 := of_decide_eq_false hb
    generalize c / 2 ^ n = q at *
    omega
  rcases Nat.lt_or_ge c (2 ^ n) with h3 | h3
  · exact h3
  · have := Nat.div_pos h3 (Nat.two_pow_pos n); omega
theorem Ind.snoc {ks : List Nat} {r : Nat} (h : Ind ks) (hr : ¬ Sp ks r) : Ind (ks ++ [r]) := by
  intro c hc h0
  rw [List.length_append, List.length_singleton] at hc h0
  simp only [lin] at h0
  rw [lin_list (ks' := ks) c ks.length fun i hi => by rw [List.getD_eq_getElem?_getD, List.getElem?_append_left hi, ← List.getD_eq_getElem?_getD]] at h0
  have e : (ks ++ [r]).getD ks.length 0 = r := by simp [List.getD_eq_getElem?_getD]
  rw [e] at h0
  by_cases hb : c.testBit ks.length = true
  · rw [if_pos hb] at h0
    exact absurd (by rw [← eq_of_xor h0]; exact sp_lin ks c ks.length (Nat.le_refl _)) hr
  · rw [if_neg hb, Nat.xor_zero] at h0
    exact h c (lt_of_bit hc (by simpa using hb)) h0
theorem Ind.uniq {ks : List Nat} (h : Ind ks) {c d : Nat} (hc : c < 2 ^ ks.length) (hd : d < 2 ^ ks.length) (e : lin ks c ks.length = lin ks d ks.length) : c = d := by
  apply eq_of_xor
  refine h _ (Nat.xor_lt_two_pow hc hd) ?_
  rw [lin_xor, e, Nat.xor_self]

theorem low_lt {d W : Nat} (h0 : d ≠ 0) (h : d < 2 ^ W) : low d < W := by
  rcases Nat.lt_or_ge (low d) W with h1 | h1
  · exact h1
  · have h2 : d < 2 ^ low d := Nat.lt_of_lt_of_le h (Nat.pow_le_pow_right (by decide) h1)
    have := low_bit h0
    rw [Nat.testBit_lt_two_pow h2] at this
    cases this
theorem shift_low {c W i : Nat} (h : i < W) : (c <<< W).testBit i = false := by
  rw [Nat.testBit_shiftLeft]
  simp; omega
theorem shift_high (c W i : Nat) : (c <<< W).testBit (W + i) = c.testBit i := by
  rw [Nat.testBit_shiftLeft]
  simp
/-- The xor of rows with a mark each. -/
theorem lin_mark {ks R : List Nat} {P : Nat → Nat} {W : Nat} (hP : ∀ x y, P (x ^^^ y) = P x ^^^ P y) (c : Nat) :
    ∀ n, (∀ i, i < n → R.getD i 0 = P (ks.getD i 0) ^^^ 2 ^ (W + i)) → lin R c n = P (lin ks c n) ^^^ ((c % 2 ^ n) <<< W)
  | 0, _ => by
    have h0 : P 0 = 0 := by have := hP 0 0; simpa using this
    simp [lin, h0, Nat.mod_one]
  | n + 1, h => by
    have h0 : P 0 = 0 := by have := hP 0 0; simpa using this
    simp only [lin]
    rw [lin_mark hP c n fun i hi => h i (by omega), h n (by omega), hP]
    have hm : (c % 2 ^ (n + 1)) <<< W = ((c % 2 ^ n) <<< W) ^^^ (if c.testBit n = true then 2 ^ (W + n) else 0) := by
      apply Nat.eq_of_testBit_eq
      intro i
      rw [Nat.testBit_xor, Nat.testBit_shiftLeft, Nat.testBit_shiftLeft, Nat.testBit_mod_two_pow, Nat.testBit_mod_two_pow]
      by_cases h1 : i < W
      · have : decide (i ≥ W) = false := by simp; omega
        rw [this]
        split
        · rw [Nat.testBit_two_pow]; simp; omega
        · simp
      · obtain ⟨j, rfl⟩ : ∃ j, i = W + j := ⟨i - W, by omega⟩
        rw [Nat.add_sub_cancel_left]
        have : decide (W + j ≥ W) = true := by simp
        rw [this]
        by_cases h2 : j = n
        · subst h2
          split <;> rename_i hb <;> simp [hb]
        · have h3 : (2 ^ (W + n)).testBit (W + j) = false := by rw [Nat.testBit_two_pow]; simp; omega
          have h4 : decide (j < n + 1) = decide (j < n) := by by_cases h5 : j < n <;> simp [h5] <;> omega
          rw [h4]
          split
          · rw [h3]; simp
          · simp
    rw [hm]
    by_cases hb : c.testBit n = true
    · simp only [hb, if_true]
      generalize P (lin ks c n) = x
      generalize P (ks.getD n 0) = y
      generalize (c % 2 ^ n) <<< W = z
      generalize 2 ^ (W + n) = u
      apply Nat.eq_of_testBit_eq
      intro i
      simp only [Nat.testBit_xor]
      cases x.testBit i <;> cases y.testBit i <;> cases z.testBit i <;> cases u.testBit i <;> rfl
    · simp [hb, h0]
/-- A row that is the xor of a choice is left with the choice's marks. -/
theorem mark_red {ks R B : List Nat} {P : Nat → Nat} {W : Nat} (hP : ∀ x y, P (x ^^^ y) = P x ^^^ P y) (hlt : ∀ x, Sp ks x → P x < 2 ^ W) (hinj : ∀ x, Sp ks x → P x = 0 → x = 0) (hI : Ind ks)
    (hR : R.length = ks.length) (hRi : ∀ i, i < ks.length → R.getD i 0 = P (ks.getD i 0) ^^^ 2 ^ (W + i)) (hB : Tri B) (hs : ∀ x, Sp B x ↔ Sp R x) {c : Nat} (hc : c < 2 ^ ks.length) :
    red B (P (lin ks c ks.length)) = c <<< W := by
  have hlin := fun d => lin_mark (ks := ks) (R := R) (W := W) hP d ks.length hRi
  have hlows : ∀ b ∈ B, low b < W := fun b hb => by
    obtain ⟨d, hd, he⟩ := lin_of_sp ((hs b).1 (.of_mem hb))
    rw [hR] at hd he
    rw [hlin d, Nat.mod_eq_of_lt hd] at he
    have hsp := sp_lin ks d ks.length (Nat.le_refl _)
    have hne : P (lin ks d ks.length) ≠ 0 := fun e => by
      have h1 := hI d hd (hinj _ hsp e)
      subst h1
      rw [e] at he
      simp at he
      exact hB.1 b hb he.symm
    have h2 := low_lt hne (hlt _ hsp)
    have h3 : b.testBit (low (P (lin ks d ks.length))) = true := by rw [← he, Nat.testBit_xor, low_bit hne, shift_low h2]; rfl
    exact Nat.lt_of_le_of_lt (low_le h3) h2
  obtain ⟨h1, h2⟩ := tri_red hB (P (lin ks c ks.length))
  have h3 : Sp B (P (lin ks c ks.length) ^^^ c <<< W) := by
    refine (hs _).2 ?_
    have := hlin c
    rw [Nat.mod_eq_of_lt hc] at this
    rw [← this]
    exact sp_lin R c ks.length (by omega)
  apply eq_of_xor
  refine tri_none hB ?_ fun b hb => ?_
  · have := h2.xor h3
    rwa [xor_cancel] at this
  · rw [Nat.testBit_xor, h1 b hb, shift_low (hlows b hb)]; rfl
/-- .. and one that is none has a bit ahead of the marks. -/
theorem mark_none {ks R B : List Nat} {W : Nat} (hlt : ∀ x, Sp ks x → x < 2 ^ W) (hR : R.length = ks.length) (hRi : ∀ i, i < ks.length → R.getD i 0 = ks.getD i 0 ^^^ 2 ^ (W + i)) (hB : Tri B) (hs : ∀ x, Sp B x ↔ Sp R x)
    {v : Nat} (hv : v < 2 ^ W) (hn : ¬ Sp ks v) : red B v ≠ 0 ∧ low (red B v) < W := by
  have hlin := fun d => lin_mark (ks := ks) (R := R) (P := fun x => x) (W := W) (fun _ _ => rfl) d ks.length hRi
  obtain ⟨d, hd, he⟩ := lin_of_sp ((hs _).1 (tri_red hB v).2)
  rw [hR] at hd he
  rw [hlin d, Nat.mod_eq_of_lt hd] at he
  have hsp := sp_lin ks d ks.length (Nat.le_refl _)
  have hne : v ^^^ lin ks d ks.length ≠ 0 := fun e => hn (by rw [eq_of_xor e]; exact hsp)
  have h2 := low_lt hne (Nat.xor_lt_two_pow hv (hlt _ hsp))
  have h3 : red B v = (v ^^^ lin ks d ks.length) ^^^ d <<< W := by
    rw [Nat.xor_assoc, he, ← Nat.xor_assoc, Nat.xor_self, Nat.zero_xor]
  have h4 : (red B v).testBit (low (v ^^^ lin ks d ks.length)) = true := by rw [h3, Nat.testBit_xor, low_bit hne, shift_low h2]; rfl
  exact ⟨ne_of_bit h4, Nat.lt_of_le_of_lt (low_le h4) h2⟩

/-- The bits fs of a number, one behind the other. -/
def proj (fs : List Nat) (x : Nat) : Nat → Nat
  | 0 => 0
  | n + 1 => proj fs x n ^^^ (if x.testBit (fs.getD n 0) = true then 2 ^ n else 0)
theorem proj_bit (fs : List Nat) (x j : Nat) : ∀ n, (proj fs x n).testBit j = (decide (j < n) && x.testBit (fs.getD j 0))
  | 0 => by simp [proj]
  | n + 1 => by
    simp only [proj]
    rw [Nat.testBit_xor, proj_bit fs x j n]
    by_cases h1 : j = n
    · subst h1
      have h0 : decide (j < j) = false := by simp
      have h2 : decide (j < j + 1) = true := by simp
      rw [h0, h2]
      generalize x.testBit (fs.getD j 0) = bb
      cases bb <;> simp
    · have h2 : decide (j < n + 1) = decide (j < n) := by by_cases h5 : j < n <;> simp [h5] <;> omega
      rw [h2]
      split
      · rw [Nat.testBit_two_pow]
        have : decide (n = j) = false := by simp; omega
        rw [this]; simp
      · simp
theorem proj_xor (fs : List Nat) (n x y : Nat) : proj fs (x ^^^ y) n = proj fs x n ^^^ proj fs y n := by
  apply Nat.eq_of_testBit_eq
  intro j
  rw [Nat.testBit_xor, proj_bit, proj_bit, proj_bit, Nat.testBit_xor]
  cases decide (j < n) <;> cases x.testBit (fs.getD j 0) <;> cases y.testBit (fs.getD j 0) <;> rfl
theorem proj_lt (fs : List Nat) (x n : Nat) : proj fs x n < 2 ^ n := by
  apply Nat.lt_pow_two_of_testBit
  intro j hj
  rw [proj_bit]
  simp; omega
theorem proj_inj {B : List Nat} (hB : Tri B) {fs : List Nat} (hf : fs = B.map low) {x : Nat} (hx : Sp B x) (h : proj fs x B.length = 0) : x = 0 := by
  refine tri_none hB hx fun b hb => ?_
  obtain ⟨j, hj, rfl⟩ := List.getElem_of_mem hb
  have h1 := proj_bit fs x j B.length
  rw [h, hf] at h1
  simpa [hj, List.getD_eq_getElem?_getD, List.getElem?_eq_getElem hj] using h1.symm
end Go.Proofs.YtfimbbiholllhaaDoor.Ech
namespace Go.Proofs.YtfimbbiholllhaaDoor
open Go.RowKit
set_option linter.unusedVariables false
set_option maxRecDepth 4000

/-- One row more, as it is left. -/
def addTL (B : List (List Nat)) (v : List Nat) : List (List Nat) := if firstI (reduceL B v) < 0 then B else B ++ [reduceL B v]
def broughtL (l : List (List Nat)) : List (List Nat) := l.foldl addTL []
theorem Fit.addT {M : Nat} {B : List (List Nat)} (h : Fit M B) {v : List Nat} (hv : smalls v) (hl : v.length ≤ M) : Fit M (addTL B v) := by
  unfold addTL
  split
  · exact h
  · intro x hx
    rcases List.mem_append.1 hx with hx | hx
    · exact h x hx
    · rw [List.mem_singleton.1 hx]; exact reduce_small h hv hl
theorem addT_val {M : Nat} {B : List (List Nat)} (h : Fit M B) {v : List Nat} (hv : smalls v) (hl : v.length ≤ M) : (addTL B v).map val = Ech.addT (B.map val) (val v) := by
  obtain ⟨h1, h2⟩ := reduce_small h hv hl
  unfold addTL Ech.addT
  rw [← reduce_val h hv]
  by_cases h0 : val (reduceL B v) = 0
  · rw [if_pos ((firstI_neg h1).2 h0), if_pos h0]
  · rw [if_neg (fun k => h0 ((firstI_neg h1).1 k)), if_neg h0]; simp
theorem addT_len (B : List (List Nat)) (v : List Nat) : (addTL B v).length ≤ B.length + 1 := by
  unfold addTL
  split
  · omega
  · simp
theorem foldl_addTL {M : Nat} : ∀ (l B : List (List Nat)), Fit M l → Fit M B → Fit M (l.foldl addTL B) ∧ (l.foldl addTL B).map val = (l.map val).foldl Ech.addT (B.map val) ∧ (l.foldl addTL B).length ≤ B.length + l.length
  | [], B, _, hB => ⟨hB, rfl, by simp⟩
  | v :: l, B, hl, hB => by
    have hv := hl v List.mem_cons_self
    obtain ⟨h1, h2, h3⟩ := foldl_addTL l (addTL B v) hl.tail (hB.addT hv.1 hv.2)
    refine ⟨h1, ?_, ?_⟩
    · show (l.foldl addTL (addTL B v)).map val = _
      rw [h2, addT_val hB hv.1 hv.2]; rfl
    · show (l.foldl addTL (addTL B v)).length ≤ _
      have := addT_len B v
      simp only [List.length_cons]
      omega
theorem brought_fit {M : Nat} {l : List (List Nat)} (h : Fit M l) : Fit M (broughtL l) := (foldl_addTL l [] h (.nil M)).1
theorem brought_val {M : Nat} {l : List (List Nat)} (h : Fit M l) : (broughtL l).map val = (l.map val).foldl Ech.addT [] := (foldl_addTL l [] h (.nil M)).2.1
theorem brought_len {M : Nat} {l : List (List Nat)} (h : Fit M l) : (broughtL l).length ≤ l.length := by
  have h1 : (l.foldl addTL []).length ≤ l.length := by simpa using (foldl_addTL l [] h (.nil M)).2.2
  exact h1
theorem brought_tri {M : Nat} {l : List (List Nat)} (h : Fit M l) : Ech.Tri ((broughtL l).map val) := by rw [brought_val h]; exact (Ech.foldl_addT _ _ .nil).1
theorem brought_sp {M : Nat} {l : List (List Nat)} (h : Fit M l) (x : Nat) : Ech.Sp ((broughtL l).map val) x ↔ Ech.Sp (l.map val) x := by rw [brought_val h]; exact (Ech.foldl_addT _ _ .nil).2 x
theorem brought_take {l : List (List Nat)} {k : Nat} (h : k < l.length) : broughtL (l.take (k + 1)) = addTL (broughtL (l.take k)) (l.getD k []) := by
  unfold broughtL
  rw [List.take_succ_eq_append_getElem h, List.foldl_append]
  simp [List.getD_eq_getElem?_getD, List.getElem?_eq_getElem h]
/-- Whether a row is in the span. -/
theorem brought_in {M : Nat} {l : List (List Nat)} (h : Fit M l) {v : List Nat} (hv : smalls v) (hl : v.length ≤ M) : firstI (reduceL (broughtL l) v) < 0 ↔ Ech.Sp (l.map val) (val v) := by
  rw [firstI_neg (reduce_small (brought_fit h) hv hl).1, reduce_val (brought_fit h) hv, Ech.tri_zero (brought_tri h), brought_sp h]
theorem basis_in_iff {M : Nat} {l : List (List Nat)} (h : Fit M l) {v : List Nat} (hv : smalls v) (hl : v.length ≤ M) : firstI (reduceL (basisL l) v) < 0 ↔ Ech.Sp (l.map val) (val v) := by
  rw [firstI_neg (reduce_small (basis_fit h) hv hl).1, reduce_val (basis_fit h) hv, Ech.red_zero (basis_red h), basis_val h, Ech.sp_basis]

/-- The places that are kept of the first k rows. -/
def keepL (rs : List (List Nat)) : Nat → List Nat
  | 0 => []
  | k + 1 => if firstI (reduceL (broughtL (rs.take k)) (rs.getD k [])) < 0 then keepL rs k else keepL rs k ++ [k]
def rkeepL (rs : List (List Nat)) : Nat → List Nat
  | 0 => []
  | k + 1 => if firstI (reduceL (basisL (rs.take k)) (rs.getD k [])) < 0 then rkeepL rs k else rkeepL rs k ++ [k]
theorem keep_eq {M : Nat} {rs : List (List Nat)} (h : Fit M rs) : ∀ k, rkeepL rs k = keepL rs k
  | 0 => rfl
  | k + 1 => by
    have h1 := brought_in (h.take k) (h.getD k).1 (h.getD k).2
    have h2 := basis_in_iff (h.take k) (h.getD k).1 (h.getD k).2
    simp only [rkeepL, keepL, keep_eq h k]
    by_cases hs : Ech.Sp ((rs.take k).map val) (val (rs.getD k []))
    · rw [if_pos (h1.2 hs), if_pos (h2.2 hs)]
    · rw [if_neg (fun e => hs (h1.1 e)), if_neg (fun e => hs (h2.1 e))]
theorem keep_lt (rs : List (List Nat)) : ∀ k, ∀ i ∈ keepL rs k, i < k
  | 0, i, h => by cases h
  | k + 1, i, h => by
    simp only [keepL] at h
    split at h
    · have := keep_lt rs k i h; omega
    · rcases List.mem_append.1 h with h | h
      · have := keep_lt rs k i h; omega
      · rw [List.mem_singleton.1 h]; omega
theorem keep_rise (rs : List (List Nat)) : ∀ k, (keepL rs k).Pairwise (· < ·)
  | 0 => .nil
  | k + 1 => by
    simp only [keepL]
    split
    · exact keep_rise rs k
    · refine List.pairwise_append.2 ⟨keep_rise rs k, by simp, fun a ha b hb => ?_⟩
      rw [List.mem_singleton.1 hb]
      exact keep_lt rs k a ha
theorem keep_len (rs : List (List Nat)) : ∀ k, (keepL rs k).length ≤ k
  | 0 => Nat.le_refl _
  | k + 1 => by
    have := keep_len rs k
    simp only [keepL]
    split
    · omega
    · simp; omega
theorem keep_brought (rs : List (List Nat)) : ∀ k, k ≤ rs.length → (keepL rs k).length = (broughtL (rs.take k)).length
  | 0, _ => by simp [keepL, broughtL]
  | k + 1, h => by
    rw [brought_take (by omega)]
    simp only [keepL, addTL]
    have := keep_brought rs k (by omega)
    split <;> simp [this]
theorem rkeep_basis (rs : List (List Nat)) : ∀ k, k ≤ rs.length → (rkeepL rs k).length = (basisL (rs.take k)).length
  | 0, _ => by simp [rkeepL, basisL]
  | k + 1, h => by
    rw [basis_take (by omega)]
    simp only [rkeepL, insertL]
    have := rkeep_basis rs k (by omega)
    split
    · exact this
    · rw [insAt_length _ _ _ (idxL_le _ _)]
      simp [this]
theorem keep_append (rs : List (List Nat)) (v : List Nat) : ∀ k, k ≤ rs.length → keepL (rs ++ [v]) k = keepL rs k
  | 0, _ => rfl
  | k + 1, h => by
    have e : (rs ++ [v]).getD k [] = rs.getD k [] := by rw [List.getD_eq_getElem?_getD, List.getElem?_append_left (by omega), ← List.getD_eq_getElem?_getD]
    simp only [keepL]
    rw [keep_append rs v k (by omega), List.take_append_of_le_length (by omega), e]
theorem keep_more (rs : List (List Nat)) (v : List Nat) : keepL (rs ++ [v]) (rs.length + 1) = if firstI (reduceL (broughtL rs) v) < 0 then keepL rs rs.length else keepL rs rs.length ++ [rs.length] := by
  have e : (rs ++ [v]).getD rs.length [] = v := by simp [List.getD_eq_getElem?_getD]
  simp only [keepL]
  rw [keep_append rs v _ (Nat.le_refl _), List.take_append_of_le_length (Nat.le_refl _), List.take_length, e]
/-- The rows at places. -/
def rowsAt (rs : List (List Nat)) (ps : List Nat) : List (List Nat) := ps.map fun i => rs.getD i []
def keptL (rs : List (List Nat)) : List (List Nat) := rowsAt rs (keepL rs rs.length)
theorem rowsAt_fit {M : Nat} {rs : List (List Nat)} (h : Fit M rs) (ps : List Nat) : Fit M (rowsAt rs ps) := by
  intro x hx
  obtain ⟨i, _, rfl⟩ := List.mem_map.1 hx
  exact h.getD i
theorem keep_span {M : Nat} {rs : List (List Nat)} (h : Fit M rs) : ∀ k, k ≤ rs.length → (∀ x, Ech.Sp ((rowsAt rs (keepL rs k)).map val) x ↔ Ech.Sp ((rs.take k).map val) x) ∧ Ech.Ind ((rowsAt rs (keepL rs k)).map val)
  | 0, _ => ⟨fun x => by simp [keepL, rowsAt], Ech.Ind.nil⟩
  | k + 1, hk => by
    obtain ⟨h1, h2⟩ := keep_span h k (by omega)
    have hin := brought_in (h.take k) (h.getD k).1 (h.getD k).2
    have ht : (rs.take (k + 1)).map val = (rs.take k).map val ++ [val (rs.getD k [])] := by
      rw [List.take_succ_eq_append_getElem (show k < rs.length by omega), List.map_append, List.getD_eq_getElem?_getD, List.getElem?_eq_getElem (show k < rs.length by omega)]
      rfl
    rw [ht]
    simp only [keepL]
    split
    · rename_i h0
      refine ⟨fun x => ?_, h2⟩
      rw [h1]
      refine ⟨fun e => e.mono fun a ha => List.mem_append_left _ ha, fun e => e.of fun a ha => ?_⟩
      rcases List.mem_append.1 ha with ha | ha
      · exact .of_mem ha
      · rw [List.mem_singleton.1 ha]; exact hin.1 h0
    · rename_i h0
      have he : (rowsAt rs (keepL rs k ++ [k])).map val = (rowsAt rs (keepL rs k)).map val ++ [val (rs.getD k [])] := by simp [rowsAt]
      rw [he]
      refine ⟨fun x => ⟨fun e => e.of fun a ha => ?_, fun e => e.of fun a ha => ?_⟩, h2.snoc fun e => h0 (hin.2 ((h1 _).1 e))⟩
      · rcases List.mem_append.1 ha with ha | ha
        · exact ((h1 a).1 (.of_mem ha)).mono fun c hc => List.mem_append_left _ hc
        · exact .of_mem (List.mem_append_right _ ha)
      · rcases List.mem_append.1 ha with ha | ha
        · exact ((h1 a).2 (.of_mem ha)).mono fun c hc => List.mem_append_left _ hc
        · exact .of_mem (List.mem_append_right _ ha)
theorem kept_sp {M : Nat} {rs : List (List Nat)} (h : Fit M rs) (x : Nat) : Ech.Sp ((keptL rs).map val) x ↔ Ech.Sp (rs.map val) x := by
  have := (keep_span h rs.length (Nat.le_refl _)).1 x
  rwa [List.take_length] at this
theorem kept_ind {M : Nat} {rs : List (List Nat)} (h : Fit M rs) : Ech.Ind ((keptL rs).map val) := (keep_span h rs.length (Nat.le_refl _)).2
theorem kept_len (rs : List (List Nat)) : ((keptL rs).map val).length = (keepL rs rs.length).length := by simp [keptL, rowsAt]
theorem kept_get (rs : List (List Nat)) (i : Nat) (hi : i < (keepL rs rs.length).length) : ((keptL rs).map val).getD i 0 = val (rs.getD ((keepL rs rs.length).getD i 0) []) := by
  simp [keptL, rowsAt, List.getD_eq_getElem?_getD, List.getElem?_eq_getElem hi]
/-- As many are kept as the rank; those alone have it. -/
theorem keep_rank {M : Nat} {rs : List (List Nat)} (h : Fit M rs) : (keepL rs rs.length).length = (basisL rs).length := by
  rw [← keep_eq h, rkeep_basis rs _ (Nat.le_refl _), List.take_length]
theorem keep_basis {M : Nat} {rs : List (List Nat)} (h : Fit M rs) : SameR (basisL (keptL rs)) (basisL rs) := by
  have hk : Fit M (keptL rs) := rowsAt_fit h _
  refine SameR.of_val (basis_fit hk) (basis_fit h) ?_
  rw [basis_val hk, basis_val h]
  refine Ech.uniq (Ech.red_basis _) (Ech.red_basis _) fun x => ?_
  rw [Ech.sp_basis, Ech.sp_basis, kept_sp h]

/-- The places that a choice tells. -/
def chosenL (ps : List Nat) (p : Nat → Bool) : Nat → List Nat
  | 0 => []
  | n + 1 => if p n = true then chosenL ps p n ++ [ps.getD n 0] else chosenL ps p n
theorem chosen_congr (ps : List Nat) {p q : Nat → Bool} : ∀ n, (∀ i, i < n → p i = q i) → chosenL ps p n = chosenL ps q n
  | 0, _ => rfl
  | n + 1, h => by simp only [chosenL]; rw [chosen_congr ps n fun i hi => h i (by omega), h n (by omega)]
theorem chosen_len (ps : List Nat) (p : Nat → Bool) : ∀ n, (chosenL ps p n).length ≤ n
  | 0 => Nat.le_refl _
  | n + 1 => by
    have := chosen_len ps p n
    simp only [chosenL]
    split
    · simp; omega
    · omega
theorem chosen_sub (ps : List Nat) (p : Nat → Bool) : ∀ n, n ≤ ps.length → List.Sublist (chosenL ps p n) (ps.take n)
  | 0, _ => by simp [chosenL]
  | n + 1, h => by
    rw [List.take_succ_eq_append_getElem (show n < ps.length by omega)]
    simp only [chosenL]
    split
    · refine (chosen_sub ps p n (by omega)).append ?_
      simp [List.getD_eq_getElem?_getD, List.getElem?_eq_getElem (show n < ps.length by omega)]
    · exact (chosen_sub ps p n (by omega)).trans (List.sublist_append_left _ _)
theorem chosen_lt {rs : List (List Nat)} {p : Nat → Bool} {n : Nat} (hn : n ≤ (keepL rs rs.length).length) : ∀ i ∈ chosenL (keepL rs rs.length) p n, i < rs.length := fun i hi =>
  keep_lt rs _ i (List.mem_of_mem_take ((chosen_sub _ p n hn).subset hi))
theorem chosen_rise {rs : List (List Nat)} {p : Nat → Bool} {n : Nat} (hn : n ≤ (keepL rs rs.length).length) : (chosenL (keepL rs rs.length) p n).Pairwise (· < ·) :=
  List.Pairwise.sublist ((chosen_sub _ p n hn).trans (List.take_sublist _ _)) (keep_rise rs _)
/-- The xor of the rows at places. -/
def sumV (rs : List (List Nat)) (ps : List Nat) : List Nat := ps.foldl (fun x i => xorL x (rs.getD i [])) []
theorem sum_fold {M : Nat} {rs : List (List Nat)} (h : Fit M rs) : ∀ (ps : List Nat) (x : List Nat), smalls x → x.length ≤ M → smalls (ps.foldl (fun x i => xorL x (rs.getD i [])) x) ∧ (ps.foldl (fun x i => xorL x (rs.getD i [])) x).length ≤ M
  | [], x, hx, hl => ⟨hx, hl⟩
  | i :: ps, x, hx, hl => sum_fold h ps _ (xorL_small hx (h.getD i).1) (by rw [xorL_length]; have := (h.getD i).2; omega)
theorem sum_small {M : Nat} {rs : List (List Nat)} (h : Fit M rs) (ps : List Nat) : smalls (sumV rs ps) ∧ (sumV rs ps).length ≤ M := sum_fold h ps [] smalls.nil (Nat.zero_le _)
theorem sum_snoc (rs : List (List Nat)) (ps : List Nat) (i : Nat) : sumV rs (ps ++ [i]) = xorL (sumV rs ps) (rs.getD i []) := by simp [sumV]
theorem sum_take (rs : List (List Nat)) (ps : List Nat) (k : Nat) (h : k < ps.length) : sumV rs (ps.take (k + 1)) = xorL (sumV rs (ps.take k)) (rs.getD (ps.getD k 0) []) := by
  rw [List.take_succ_eq_append_getElem h, sum_snoc]
  simp [List.getD_eq_getElem?_getD, List.getElem?_eq_getElem h]
theorem sum_val {M : Nat} {rs : List (List Nat)} (h : Fit M rs) (ps : List Nat) (c : Nat) : ∀ n, n ≤ ps.length → val (sumV rs (chosenL ps (fun i => c.testBit i) n)) = Ech.lin ((rowsAt rs ps).map val) c n
  | 0, _ => rfl
  | n + 1, hn => by
    have hg : ((rowsAt rs ps).map val).getD n 0 = val (rs.getD (ps.getD n 0) []) := by simp [rowsAt, List.getD_eq_getElem?_getD, List.getElem?_eq_getElem (show n < ps.length by omega)]
    simp only [chosenL, Ech.lin]
    rw [hg]
    split
    · rw [sum_snoc, val_xor (sum_small h _).1 (h.getD _).1, sum_val h ps c n (by omega)]
    · rw [sum_val h ps c n (by omega), Nat.xor_zero]

theorem val_lt : ∀ {xs : List Nat}, smalls xs → val xs < 2 ^ (64 * xs.length)
  | [], _ => by simp [val]
  | x :: r, h => by
    have hx : x < 2 ^ 64 := h x List.mem_cons_self
    have hr := val_lt h.tail
    rw [val, List.length_cons, show 64 * (r.length + 1) = 64 + 64 * r.length by omega, Nat.pow_add]
    calc 2 ^ 64 * val r + x < 2 ^ 64 * val r + 2 ^ 64 := by omega
      _ = 2 ^ 64 * (val r + 1) := by rw [Nat.mul_add, Nat.mul_one]
      _ ≤ 2 ^ 64 * 2 ^ (64 * r.length) := Nat.mul_le_mul_left _ hr
/-- The choice whose xor a row is. -/
def Choice (rs : List (List Nat)) (v : List Nat) (c : Nat) : Prop := c < 2 ^ (keepL rs rs.length).length ∧ Ech.lin ((keptL rs).map val) c (keepL rs rs.length).length = val v
theorem Choice.uniq {M : Nat} {rs : List (List Nat)} (h : Fit M rs) {v : List Nat} {c d : Nat} (hc : Choice rs v c) (hd : Choice rs v d) : c = d := by
  refine (kept_ind h).uniq ?_ ?_ ?_
  · rw [kept_len]; exact hc.1
  · rw [kept_len]; exact hd.1
  · rw [kept_len, hc.2, hd.2]
theorem choice_of {M : Nat} {rs : List (List Nat)} (h : Fit M rs) {v : List Nat} (hv : Ech.Sp (rs.map val) (val v)) : ∃ c, Choice rs v c := by
  obtain ⟨c, h1, h2⟩ := Ech.lin_of_sp ((kept_sp h _).2 hv)
  rw [kept_len] at h1 h2
  exact ⟨c, h1, h2⟩
/-- What is told is xored to the row. -/
theorem Choice.sum {M : Nat} {rs : List (List Nat)} (h : Fit M rs) {v : List Nat} {c : Nat} (hc : Choice rs v c) : val (sumV rs (chosenL (keepL rs rs.length) (fun i => c.testBit i) (keepL rs rs.length).length)) = val v := by
  rw [sum_val h _ _ _ (Nat.le_refl _)]
  exact hc.2

theorem getB_setB (xs : List Nat) (i j : Nat) (h : i < 64 * xs.length) : getB (setB xs i true) j = (decide (j = i) || getB xs j) := by
  have hi : i / 64 < xs.length := by omega
  unfold getB setB setW
  rw [getD_set]
  by_cases h1 : j / 64 = i / 64
  · rw [if_pos ⟨h1, hi⟩, h1]
    by_cases h2 : j % 64 = i % 64
    · have h3 : j = i := by omega
      subst h3
      split
      · rename_i hb; rw [hb]; simp
      · rename_i hb; rw [Nat.testBit_xor, Nat.testBit_two_pow]; simp at hb; simp [hb]
    · have h3 : decide (j = i) = false := by simp; omega
      have h4 : decide (i % 64 = j % 64) = false := by simp; omega
      split
      · rw [h3]; rfl
      · rw [Nat.testBit_xor, Nat.testBit_two_pow, h3, h4]; simp
  · have h3 : decide (j = i) = false := by simp; omega
    rw [if_neg (fun k => h1 k.1), h3]; rfl
theorem setB_small {xs : List Nat} (h : smalls xs) (i : Nat) (on : Bool) : smalls (setB xs i on) := h.set _ _ (setW_lt _ _ _ (h.get _) (by omega))
/-- The bits fs of v, one behind the other, set in a row. -/
def pickL (row v fs : List Nat) : Nat → List Nat
  | 0 => row
  | k + 1 => if getB v (fs.getD k 0) = true then setB (pickL row v fs k) k true else pickL row v fs k
theorem pick_len (row v fs : List Nat) : ∀ k, (pickL row v fs k).length = row.length
  | 0 => rfl
  | k + 1 => by
    simp only [pickL]
    split
    · rw [setB_length, pick_len row v fs k]
    · exact pick_len row v fs k
theorem pick_small {row : List Nat} (h : smalls row) (v fs : List Nat) : ∀ k, smalls (pickL row v fs k)
  | 0 => h
  | k + 1 => by
    simp only [pickL]
    split
    · exact setB_small (pick_small h v fs k) _ _
    · exact pick_small h v fs k
theorem pick_bit (row v fs : List Nat) (j : Nat) : ∀ k, k ≤ 64 * row.length → getB (pickL row v fs k) j = (getB row j || (decide (j < k) && getB v (fs.getD j 0)))
  | 0, _ => by simp [pickL]
  | k + 1, h => by
    have ih := pick_bit row v fs j k (by omega)
    simp only [pickL]
    by_cases h1 : j = k
    · subst h1
      have h0 : decide (j < j) = false := by simp
      have h2 : decide (j < j + 1) = true := by simp
      rw [h0] at ih
      rw [h2]
      split
      · rename_i hb
        rw [getB_setB _ _ _ (by rw [pick_len]; omega), ih, hb]; simp
      · rename_i hb
        rw [ih, show getB v (fs.getD j 0) = false by simpa using hb]; simp
    · have h2 : decide (j < k + 1) = decide (j < k) := by by_cases h5 : j < k <;> simp [h5] <;> omega
      rw [h2]
      split
      · rw [getB_setB _ _ _ (by rw [pick_len]; omega), ih]; simp [h1]
      · exact ih
def zeros (n : Nat) : List Nat := List.replicate n 0
theorem zeros_small (n : Nat) : smalls (zeros n) := fun x hx => by rw [List.eq_of_mem_replicate hx]; show 0 < 18446744073709551616; decide
theorem zeros_len (n : Nat) : (zeros n).length = n := by simp [zeros]
theorem zeros_bit (n j : Nat) : getB (zeros n) j = false := by
  unfold getB zeros
  rw [List.getD_eq_getElem?_getD, List.getElem?_replicate]
  split <;> simp
theorem pick_val {s n : Nat} {v fs : List Nat} (hv : smalls v) (hn : n ≤ 64 * s) : val (pickL (zeros s) v fs n) = Ech.proj fs (val v) n := by
  apply Nat.eq_of_testBit_eq
  intro j
  rw [val_bit (pick_small (zeros_small s) v fs n), pick_bit _ _ _ _ _ (by rw [zeros_len]; exact hn), zeros_bit, Ech.proj_bit, val_bit hv]
  simp
/-- .. and a mark behind them. -/
theorem mark_val {s n i : Nat} {v fs : List Nat} (hv : smalls v) (hn : n ≤ 64 * s) (hi : n + i < 64 * s) : val (setB (pickL (zeros s) v fs n) (n + i) true) = Ech.proj fs (val v) n ^^^ 2 ^ (n + i) := by
  apply Nat.eq_of_testBit_eq
  intro j
  rw [val_bit (setB_small (pick_small (zeros_small s) v fs n) _ _), getB_setB _ _ _ (by rw [pick_len, zeros_len]; exact hi), Nat.testBit_xor, Nat.testBit_two_pow,
    pick_bit _ _ _ _ _ (by rw [zeros_len]; exact hn), zeros_bit, Ech.proj_bit, val_bit hv]
  by_cases h1 : j = n + i
  · have h2 : decide (j < n) = false := by simp; omega
    rw [h2]; simp [h1]
  · have h2 : decide (n + i = j) = false := by simp; omega
    have h3 : decide (j = n + i) = false := by simpa using h1
    rw [h2, h3]; simp
/-- The program's way: bits that tell the span's rows apart, with marks behind them. -/
theorem express_bits {M M' : Nat} {rs : List (List Nat)} (hf : Fit M rs) {v fs q : List Nat} {R : List (List Nat)} (hfs : fs = (broughtL rs).map fun b => Ech.low (val b)) (hR : R.length = (keepL rs rs.length).length) (hRf : Fit M' R)
    (hRi : ∀ i, i < (keepL rs rs.length).length → val (R.getD i []) = Ech.proj fs (val (rs.getD ((keepL rs rs.length).getD i 0) [])) (keepL rs rs.length).length ^^^ 2 ^ ((keepL rs rs.length).length + i))
    (hq : smalls q) (hqv : val q = Ech.proj fs (val v) (keepL rs rs.length).length) (hql : q.length ≤ M') {c : Nat} (hc : Choice rs v c) (i : Nat) : getB (reduceL (broughtL R) q) ((keepL rs rs.length).length + i) = c.testBit i := by
  have hbl : ((broughtL rs).map val).length = (keepL rs rs.length).length := by rw [List.length_map, keep_brought rs _ (Nat.le_refl _), List.take_length]
  have hm := Ech.mark_red (ks := (keptL rs).map val) (R := R.map val) (B := (broughtL R).map val) (P := fun x => Ech.proj fs x (keepL rs rs.length).length) (W := (keepL rs rs.length).length) (c := c) (Ech.proj_xor fs _) (fun x _ => Ech.proj_lt fs x _)
    (fun x hx h0 => by
      refine Ech.proj_inj (brought_tri hf) (fs := fs) (by rw [hfs]; simp) ((brought_sp hf x).2 ((kept_sp hf x).1 hx)) ?_
      rw [hbl]; exact h0) (kept_ind hf) (by rw [kept_len, List.length_map, hR])
    (fun i hi => by
      rw [kept_len] at hi
      rw [kept_get rs i hi, ← hRi i hi]
      simp [List.getD_eq_getElem?_getD, List.getElem?_eq_getElem (show i < R.length by omega)]) (brought_tri hRf) (brought_sp hRf) (by rw [kept_len]; exact hc.1)
  rw [kept_len, hc.2, ← hqv, ← reduce_val (brought_fit hRf) hq] at hm
  rw [← val_bit (reduce_small (brought_fit hRf) hq hql).1, hm, Ech.shift_high]
theorem sp_below {M : Nat} {l : List (List Nat)} (h : Fit M l) {x : Nat} (k : Ech.Sp (l.map val) x) : x < 2 ^ (64 * M) := by
  refine Ech.Sp.ind (P := fun x => x < 2 ^ (64 * M)) (Nat.two_pow_pos _) (fun b x hb ih => ?_) k
  obtain ⟨a, ha, rfl⟩ := List.mem_map.1 hb
  refine Nat.xor_lt_two_pow (Nat.lt_of_lt_of_le (val_lt (h a ha).1) (Nat.pow_le_pow_right (by decide) ?_)) ih
  have := (h a ha).2
  omega
/-- The reference's way: a bit more each, behind all of theirs. -/
theorem express_ref {M' W : Nat} {rs : List (List Nat)} (hf : Fit W rs) {v : List Nat} {E : List (List Nat)} (hE : E.length = (keepL rs rs.length).length) (hEf : Fit M' E)
    (hEi : ∀ i, i < (keepL rs rs.length).length → val (E.getD i []) = val (rs.getD ((keepL rs rs.length).getD i 0) []) ^^^ 2 ^ (64 * W + i)) (hv : smalls v) (hvW : v.length ≤ W) (hvl : v.length ≤ M') :
    (∀ c, Choice rs v c → (firstI (reduceL (basisL E) v) < 0 ∨ 64 * (W : Int) ≤ firstI (reduceL (basisL E) v)) ∧ ∀ i, getB (reduceL (basisL E) v) (64 * W + i) = c.testBit i) ∧
    (¬ Ech.Sp (rs.map val) (val v) → 0 ≤ firstI (reduceL (basisL E) v) ∧ firstI (reduceL (basisL E) v) < 64 * (W : Int)) := by
  have hEg : ∀ i, i < ((keptL rs).map val).length → (E.map val).getD i 0 = ((keptL rs).map val).getD i 0 ^^^ 2 ^ (64 * W + i) := fun i hi => by
    rw [kept_len] at hi
    rw [kept_get rs i hi, ← hEi i hi]
    simp [List.getD_eq_getElem?_getD, List.getElem?_eq_getElem (show i < E.length by omega)]
  have hsp : ∀ x, Ech.Sp ((basisL E).map val) x ↔ Ech.Sp (E.map val) x := fun x => by rw [basis_val hEf, Ech.sp_basis]
  have hkb : ∀ x, Ech.Sp ((keptL rs).map val) x → x < 2 ^ (64 * W) := fun x hx => sp_below hf ((kept_sp hf x).1 hx)
  have hr := reduce_small (basis_fit hEf) hv hvl
  have hrv := reduce_val (basis_fit hEf) hv
  refine ⟨fun c hc => ?_, fun hn => ?_⟩
  · have hm := Ech.mark_red (ks := (keptL rs).map val) (R := E.map val) (B := (basisL E).map val) (P := fun x => x) (W := 64 * W) (c := c) (fun _ _ => rfl) hkb (fun x _ h0 => h0) (kept_ind hf) (by rw [kept_len, List.length_map, hE]) hEg
      (basis_red hEf).tri hsp (by rw [kept_len]; exact hc.1)
    rw [kept_len, hc.2, ← hrv] at hm
    refine ⟨?_, fun i => by rw [← val_bit hr.1, hm, Ech.shift_high]⟩
    rw [firstI_val hr.1]
    split
    · left; omega
    · rename_i h0
      right
      rcases Nat.lt_or_ge (Ech.low (val (reduceL (basisL E) v))) (64 * W) with h1 | h1
      · have h2 := Ech.low_bit h0
        rw [hm] at h2 h1
        rw [Ech.shift_low h1] at h2
        cases h2
      · omega
  · have hm := Ech.mark_none (ks := (keptL rs).map val) (R := E.map val) (B := (basisL E).map val) (W := 64 * W) hkb (by rw [kept_len, List.length_map, hE]) hEg (basis_red hEf).tri hsp (v := val v)
      (Nat.lt_of_lt_of_le (val_lt hv) (Nat.pow_le_pow_right (by decide) (by omega))) (fun e => hn ((kept_sp hf _).1 e))
    rw [← hrv] at hm
    rw [firstI_val hr.1, if_neg hm.1]
    have := hm.2
    omega
end Go.Proofs.YtfimbbiholllhaaDoor
namespace Go.Proofs.YtfimbbiholllhaaDoor
open Go.RowKit
set_option linter.unusedVariables false
set_option maxRecDepth 4000

/-- The distance of two numbers. -/
def distZ (d : Nat) (t : Int) : Int := if (d : Int) < t then t - d else d - t
theorem distZ_abs (d : Nat) (t : Int) : distZ d t = max (t - d) (-(t - d)) := by unfold distZ; split <;> omega
theorem distZ_pos (d : Nat) (t : Int) : 0 ≤ distZ d t := by unfold distZ; split <;> omega
theorem xorL_swap (a b c : List Nat) : xorL (xorL a b) c = xorL (xorL a c) b := by rw [xorL_assoc, xorL_comm b c, ← xorL_assoc]
/-- The degree that row i brings. -/
def brD (V : List (List Nat)) (v : List Nat) (i : Nat) : Nat := cnt (xorL v (V.getD i []))
/-- May row i be chosen, and is it nearer than z? -/
def nearer (V : List (List Nat)) (ch : List Bool) (v : List Nat) (t : Int) (i : Nat) (z : Int) : Prop := ch.getD i false = false ∧ 0 < brD V v i ∧ distZ (brD V v i) t < z
def nearerD (V : List (List Nat)) (ch : List Bool) (v : List Nat) (t : Int) (i : Nat) (z : Int) : Decidable (nearer V ch v t i z) :=
  inferInstanceAs (Decidable (ch.getD i false = false ∧ 0 < brD V v i ∧ distZ (brD V v i) t < z))
/-- The best of the first i rows, and how near that is. -/
def nearTo (V : List (List Nat)) (ch : List Bool) (v : List Nat) (t : Int) : Nat → Option Nat × Int
  | 0 => (none, distZ (cnt v) t)
  | i + 1 => @ite _ (nearer V ch v t i (nearTo V ch v t i).2) (nearerD V ch v t i (nearTo V ch v t i).2) (some i, distZ (brD V v i) t) (nearTo V ch v t i)
theorem nearTo_zero (V : List (List Nat)) (ch : List Bool) (v : List Nat) (t : Int) : nearTo V ch v t 0 = (none, distZ (cnt v) t) := rfl
theorem nearTo_yes {V : List (List Nat)} {ch : List Bool} {v : List Nat} {t : Int} {i : Nat} (h : nearer V ch v t i (nearTo V ch v t i).2) : nearTo V ch v t (i + 1) = (some i, distZ (brD V v i) t) := by
  exact if_pos h
theorem nearTo_no {V : List (List Nat)} {ch : List Bool} {v : List Nat} {t : Int} {i : Nat} (h : ¬ nearer V ch v t i (nearTo V ch v t i).2) : nearTo V ch v t (i + 1) = nearTo V ch v t i := by
  exact if_neg h
/-- What the best is: nothing is nearer than it is, or the first one of the nearest. -/
theorem near_spec (V : List (List Nat)) (ch : List Bool) (v : List Nat) (t : Int) : ∀ n, (nearTo V ch v t n).2 ≤ distZ (cnt v) t ∧ (∀ j, j < n → ¬ nearer V ch v t j (nearTo V ch v t n).2) ∧
    match (nearTo V ch v t n).1 with
    | none => (nearTo V ch v t n).2 = distZ (cnt v) t
    | some b => b < n ∧ nearer V ch v t b (distZ (cnt v) t) ∧ (nearTo V ch v t n).2 = distZ (brD V v b) t ∧ ∀ j, j < b → ¬ nearer V ch v t j (distZ (brD V v b) t + 1)
  | 0 => ⟨Int.le_refl _, fun j hj => by omega, rfl⟩
  | n + 1 => by
    obtain ⟨h1, h2, h3⟩ := near_spec V ch v t n
    by_cases h : nearer V ch v t n (nearTo V ch v t n).2
    · rw [nearTo_yes h]
      refine ⟨by have := h.2.2; omega, fun j hj hn => ?_, by omega, ⟨h.1, h.2.1, by have := h.2.2; omega⟩, rfl, fun j hj hn => h2 j hj ⟨hn.1, hn.2.1, by have := hn.2.2; have := h.2.2; omega⟩⟩
      rcases Nat.lt_or_ge j n with e | e
      · exact h2 j e ⟨hn.1, hn.2.1, Int.lt_trans hn.2.2 h.2.2⟩
      · obtain rfl : j = n := by omega
        have := hn.2.2
        dsimp only at this
        omega
    · rw [nearTo_no h]
      refine ⟨h1, fun j hj => ?_, ?_⟩
      · rcases Nat.lt_or_ge j n with e | e
        · exact h2 j e
        · obtain rfl : j = n := by omega
          exact h
      · cases hb : (nearTo V ch v t n).1 with
        | none => rw [hb] at h3; exact h3
        | some b => rw [hb] at h3; exact ⟨by have := h3.1; omega, h3.2⟩
/-- The one that is the first of the nearest is the best. -/
theorem near_is {V : List (List Nat)} {ch : List Bool} {v : List Nat} {t : Int} {n b : Nat} (hb : b < n) (h : nearer V ch v t b (distZ (cnt v) t)) (h1 : ∀ j, j < n → ¬ nearer V ch v t j (distZ (brD V v b) t)) (h2 : ∀ j, j < b → ¬ nearer V ch v t j (distZ (brD V v b) t + 1)) : nearTo V ch v t n = (some b, distZ (brD V v b) t) := by
  obtain ⟨g1, g2, g3⟩ := near_spec V ch v t n
  cases hx : (nearTo V ch v t n).1 with
  | none =>
    rw [hx] at g3
    exact absurd ⟨h.1, h.2.1, by rw [g3]; exact h.2.2⟩ (g2 b hb)
  | some c =>
    rw [hx] at g3
    obtain ⟨k1, k2, k3, k4⟩ := g3
    have e1 : distZ (brD V v c) t = distZ (brD V v b) t := by
      rcases Int.lt_trichotomy (distZ (brD V v c) t) (distZ (brD V v b) t) with e | e | e
      · exact absurd ⟨k2.1, k2.2.1, e⟩ (h1 c k1)
      · exact e
      · exact absurd ⟨h.1, h.2.1, by rw [k3]; exact e⟩ (g2 b hb)
    have e2 : c = b := by
      rcases Nat.lt_trichotomy c b with e | e | e
      · exact absurd ⟨k2.1, k2.2.1, by omega⟩ (h2 c e)
      · exact e
      · exact absurd ⟨h.1, h.2.1, by omega⟩ (k4 b e)
    subst e2
    exact Prod.ext hx k3
theorem near_none {V : List (List Nat)} {ch : List Bool} {v : List Nat} {t : Int} {n : Nat} (h : ∀ j, j < n → ¬ nearer V ch v t j (distZ (cnt v) t)) : nearTo V ch v t n = (none, distZ (cnt v) t) := by
  obtain ⟨g1, g2, g3⟩ := near_spec V ch v t n
  cases hx : (nearTo V ch v t n).1 with
  | none => rw [hx] at g3; exact Prod.ext hx g3
  | some c => rw [hx] at g3; exact absurd g3.2.1 (h c g3.1)

/-- The xor of those of the first n rows that are chosen. -/
def sumCh (V : List (List Nat)) (ch : List Bool) : Nat → List Nat
  | 0 => []
  | i + 1 => if ch.getD i false = true then xorL (sumCh V ch i) (V.getD i []) else sumCh V ch i
theorem set_at {ch : List Bool} {b : Nat} {x : Bool} (hl : b < ch.length) : (ch.set b x).getD b false = x := by
  rw [List.getD_eq_getElem?_getD, List.getElem?_set_self hl]
  rfl
theorem set_else {ch : List Bool} {b i : Nat} {x : Bool} (h : i ≠ b) : (ch.set b x).getD i false = ch.getD i false := by
  rw [List.getD_eq_getElem?_getD, List.getD_eq_getElem?_getD, List.getElem?_set_ne (fun e => h e.symm)]
theorem sumCh_succ (V : List (List Nat)) (ch : List Bool) (i : Nat) : sumCh V ch (i + 1) = if ch.getD i false = true then xorL (sumCh V ch i) (V.getD i []) else sumCh V ch i := rfl
theorem sumCh_low {V : List (List Nat)} {ch : List Bool} {b : Nat} {x : Bool} : ∀ n, n ≤ b → sumCh V (ch.set b x) n = sumCh V ch n
  | 0, _ => rfl
  | n + 1, h => by rw [sumCh_succ, sumCh_succ, sumCh_low n (by omega), set_else (by omega)]
theorem sumCh_set {V : List (List Nat)} {ch : List Bool} {b : Nat} (hl : b < ch.length) (hb : ch.getD b false = false) : ∀ n, b < n → sumCh V (ch.set b true) n = xorL (sumCh V ch n) (V.getD b [])
  | 0, h => by omega
  | n + 1, h => by
    rw [sumCh_succ, sumCh_succ]
    by_cases e : n = b
    · subst e
      rw [set_at hl, if_pos rfl, hb, if_neg (by decide), sumCh_low n (Nat.le_refl _)]
    · rw [set_else e, sumCh_set hl hb n (by omega)]
      split
      · exact xorL_swap _ _ _
      · rfl
theorem sumCh_none (V : List (List Nat)) (m : Nat) : ∀ n, sumCh V (List.replicate m false) n = []
  | 0 => rfl
  | n + 1 => by
    rw [sumCh_succ, sumCh_none V m n, if_neg]
    rw [List.getD_eq_getElem?_getD, List.getElem?_replicate]
    split <;> simp
/-- The places that are chosen, rising. -/
def placesCh (ch : List Bool) (n : Nat) : List Nat := (List.range n).filter fun i => ch.getD i false
theorem places_succ (ch : List Bool) (n : Nat) : placesCh ch (n + 1) = if ch.getD n false = true then placesCh ch n ++ [n] else placesCh ch n := by
  unfold placesCh
  rw [List.range_succ, List.filter_append, List.filter_cons, List.filter_nil]
  cases ch.getD n false
  · rw [if_neg (by decide), if_neg (by decide), List.append_nil]
  · rw [if_pos rfl, if_pos rfl]
theorem places_rise (ch : List Bool) (n : Nat) : (placesCh ch n).Pairwise (· < ·) := List.Pairwise.filter _ List.pairwise_lt_range
theorem places_mem {ch : List Bool} {n i : Nat} : i ∈ placesCh ch n ↔ i < n ∧ ch.getD i false = true := by
  unfold placesCh
  rw [List.mem_filter, List.mem_range]
/-- The xor over the places is the xor of what is chosen. -/
theorem places_sum (V : List (List Nat)) (ch : List Bool) : ∀ n, sumV V (placesCh ch n) = sumCh V ch n
  | 0 => rfl
  | n + 1 => by
    rw [places_succ, sumCh_succ]
    split
    · unfold sumV
      rw [List.foldl_append]
      have := places_sum V ch n
      unfold sumV at this
      rw [this]
      rfl
    · exact places_sum V ch n
/-- How many are chosen. -/
theorem places_low {ch : List Bool} {b : Nat} {x : Bool} : ∀ n, n ≤ b → placesCh (ch.set b x) n = placesCh ch n
  | 0, _ => rfl
  | n + 1, h => by rw [places_succ, places_succ, places_low n (by omega), set_else (by omega)]
theorem places_set {ch : List Bool} {b : Nat} (hl : b < ch.length) (hb : ch.getD b false = false) : ∀ n, b < n → (placesCh (ch.set b true) n).length = (placesCh ch n).length + 1
  | 0, h => by omega
  | n + 1, h => by
    rw [places_succ, places_succ]
    by_cases e : n = b
    · subst e
      rw [set_at hl, if_pos rfl, hb, if_neg (by decide), places_low n (Nat.le_refl _), List.length_append]
      rfl
    · have ih := places_set hl hb n (by omega)
      rw [set_else e]
      split
      · rw [List.length_append, List.length_append, ih, Nat.add_right_comm]
      · exact ih

/-- What is chosen, and its xor. -/
structure CS where
  ch : List Bool
  v : List Nat
def chStep (V : List (List Nat)) (t : Int) (s : CS) : CS := match (nearTo V s.ch s.v t V.length).1 with
  | none => s
  | some b => ⟨s.ch.set b true, xorL s.v (V.getD b [])⟩
/-- What is chosen behind k steps, from place p on. -/
def chTo (V : List (List Nat)) (t : Int) (p : Nat) : Nat → CS
  | 0 => ⟨(List.replicate V.length false).set p true, V.getD p []⟩
  | k + 1 => chStep V t (chTo V t p k)
theorem step_none {V : List (List Nat)} {t : Int} {s : CS} (h : (nearTo V s.ch s.v t V.length).1 = none) : chStep V t s = s := by unfold chStep; rw [h]
theorem step_some {V : List (List Nat)} {t : Int} {s : CS} {b : Nat} (h : (nearTo V s.ch s.v t V.length).1 = some b) : chStep V t s = ⟨s.ch.set b true, xorL s.v (V.getD b [])⟩ := by unfold chStep; rw [h]
/-- Where no more is chosen, that is the end. -/
theorem chTo_end {V : List (List Nat)} {t : Int} {p k : Nat} (h : (nearTo V (chTo V t p k).ch (chTo V t p k).v t V.length).1 = none) : ∀ j, chTo V t p (k + j) = chTo V t p k
  | 0 => rfl
  | j + 1 => by
    show chStep V t (chTo V t p (k + j)) = _
    rw [chTo_end h j, step_none h]
/-- What always holds of what is chosen. -/
structure CInv (V : List (List Nat)) (t : Int) (p k : Nat) (s : CS) : Prop where
  len : s.ch.length = V.length
  first : s.ch.getD p false = true
  many : (placesCh s.ch V.length).length ≤ k + 1
  sum : s.v = sumCh V s.ch V.length
  near : distZ (cnt s.v) t ≤ distZ (cnt (V.getD p [])) t
theorem chTo_inv {V : List (List Nat)} {t : Int} {p : Nat} (hp : p < V.length) : ∀ k, CInv V t p k (chTo V t p k)
  | 0 => by
    have hl : p < (List.replicate V.length false).length := by rw [List.length_replicate]; exact hp
    have h0 : (List.replicate V.length false).getD p false = false := by
      rw [List.getD_eq_getElem?_getD, List.getElem?_replicate]
      split <;> rfl
    have hn : placesCh (List.replicate V.length false) V.length = [] := by
      unfold placesCh
      rw [List.filter_eq_nil_iff]
      intro i _
      rw [List.getD_eq_getElem?_getD, List.getElem?_replicate]
      split <;> simp
    refine ⟨by show (List.set _ _ _).length = _; rw [List.length_set, List.length_replicate], ?_, ?_, ?_, Int.le_refl _⟩
    · show (List.set _ _ _).getD p false = true
      exact set_at hl
    · show (placesCh (List.set _ _ _) _).length ≤ _
      rw [places_set hl h0 _ hp, hn]
      exact Nat.le_refl _
    · show V.getD p [] = sumCh V (List.set _ _ _) V.length
      rw [sumCh_set hl h0 _ hp, sumCh_none, xorL_comm, xorL_nil]
  | k + 1 => by
    have ih := chTo_inv (t := t) hp k
    show CInv V t p (k + 1) (chStep V t (chTo V t p k))
    cases hb : (nearTo V (chTo V t p k).ch (chTo V t p k).v t V.length).1 with
    | none =>
      rw [step_none hb]
      exact ⟨ih.len, ih.first, by have := ih.many; omega, ih.sum, ih.near⟩
    | some b =>
      rw [step_some hb]
      obtain ⟨_, _, h3⟩ := near_spec V (chTo V t p k).ch (chTo V t p k).v t V.length
      rw [hb] at h3
      obtain ⟨k1, k2, _, _⟩ := h3
      have hl : b < (chTo V t p k).ch.length := by rw [ih.len]; exact k1
      refine ⟨by show (List.set _ _ _).length = _; rw [List.length_set, ih.len], ?_, ?_, ?_, ?_⟩
      · show (List.set _ _ _).getD p false = true
        by_cases e : p = b
        · exact (congrArg (fun i => List.getD _ i false) e).trans (set_at hl)
        · rw [set_else e]; exact ih.first
      · show (placesCh (List.set _ _ _) _).length ≤ _
        rw [places_set hl k2.1 _ k1]
        have := ih.many
        omega
      · show xorL _ _ = sumCh V (List.set _ _ _) V.length
        rw [sumCh_set hl k2.1 _ k1, ← ih.sum]
      · show distZ (cnt (xorL _ _)) t ≤ _
        have h4 := k2.2.2
        have h5 := ih.near
        unfold brD at h4
        omega
end Go.Proofs.YtfimbbiholllhaaDoor
namespace Go.Proofs.YtfimbbiholllhaaDoor
open Go.RowKit
set_option linter.unusedVariables false
set_option maxRecDepth 4000

/-- The places as they were chosen, and the marks: the same. -/
structure Chn (n : Nat) (ch : List Bool) (ps : List Nat) : Prop where
  len : ch.length = n
  nodup : ps.Nodup
  lt : ∀ i ∈ ps, i < n
  mem : ∀ i, i < n → ch.getD i false = decide (i ∈ ps)
theorem chn_one {n p : Nat} (hp : p < n) : Chn n ((List.replicate n false).set p true) [p] := by
  refine ⟨by rw [List.length_set, List.length_replicate], by simp, fun i hi => by rw [List.mem_singleton.1 hi]; exact hp, fun i hi => ?_⟩
  by_cases e : i = p
  · subst e
    rw [set_at (by rw [List.length_replicate]; exact hi)]
    simp
  · rw [set_else e, List.getD_eq_getElem?_getD, List.getElem?_replicate, if_pos hi]
    simp [e]
theorem Chn.snoc {n : Nat} {ch : List Bool} {ps : List Nat} (h : Chn n ch ps) {b : Nat} (hb : b < n) (hf : ch.getD b false = false) : Chn n (ch.set b true) (ps ++ [b]) := by
  have hn : b ∉ ps := by
    have := h.mem b hb
    rw [hf] at this
    exact fun e => by rw [decide_eq_true e] at this; cases this
  refine ⟨by rw [List.length_set, h.len], ?_, fun i hi => ?_, fun i hi => ?_⟩
  · rw [List.nodup_append]
    refine ⟨h.nodup, by simp, fun a ha c hc e => hn ?_⟩
    rw [← List.mem_singleton.1 hc, ← e]
    exact ha
  · rcases List.mem_append.1 hi with e | e
    · exact h.lt i e
    · rw [List.mem_singleton.1 e]; exact hb
  · by_cases e : i = b
    · subst e
      rw [set_at (by rw [h.len]; exact hi)]
      simp
    · rw [set_else e, h.mem i hi]
      simp [e]
theorem Chn.many {n : Nat} {ch : List Bool} {ps : List Nat} (h : Chn n ch ps) : ps.Perm (placesCh ch n) := by
  have h2 : (placesCh ch n).Nodup := (places_rise ch n).imp fun h => Nat.ne_of_lt h
  refine (List.perm_ext_iff_of_nodup h.nodup h2).2 fun i => ?_
  rw [places_mem]
  constructor
  · intro hi
    exact ⟨h.lt i hi, by rw [h.mem i (h.lt i hi)]; exact decide_eq_true hi⟩
  · rintro ⟨h3, h4⟩
    rw [h.mem i h3] at h4
    exact of_decide_eq_true h4
theorem Chn.sort {n : Nat} {ch : List Bool} {ps : List Nat} (h : Chn n ch ps) : (castZ ps).mergeSort (fun x y => decide (x ≤ y)) = castZ (placesCh ch n) := by
  have hp : ((castZ ps).mergeSort fun x y => decide (x ≤ y)).Perm (castZ (placesCh ch n)) := (List.mergeSort_perm _ _).trans (h.many.map _)
  refine List.Perm.eq_of_pairwise (le := fun x y : Int => x ≤ y) (fun a b _ _ h1 h2 => Int.le_antisymm h1 h2) ?_ ?_ hp
  · have := List.pairwise_mergeSort (le := fun x y : Int => decide (x ≤ y)) (fun a b c h1 h2 => by simp at *; omega) (fun a b => by simp; omega) (castZ ps)
    exact this.imp fun h => by simpa using h
  · exact List.Pairwise.map _ (fun a b hab => by omega) (places_rise ch n)
theorem has_cast (ps : List Nat) (i : Nat) : decide ((i : Int) ∈ castZ ps) = decide (i ∈ ps) := by
  have : ((i : Int) ∈ castZ ps) ↔ i ∈ ps := by
    unfold castZ
    rw [List.mem_map]
    constructor
    · rintro ⟨j, h1, h2⟩
      have : j = i := by omega
      rw [← this]; exact h1
    · exact fun h => ⟨i, h, rfl⟩
  simp only [this]
/-- The degree, told from the words that meet. -/
theorem deg_with (a v : List Nat) : cnt (a.take (min a.length v.length)) ≤ cnt a ∧ cnt a - cnt (a.take (min a.length v.length)) + cnt (xorL (a.take (min a.length v.length)) v) = cnt (xorL a v) := by
  have h1 : cnt (a.take (min a.length v.length)) + cnt (a.drop (min a.length v.length)) = cnt a := by rw [← cnt_append, List.take_append_drop]
  refine ⟨by omega, ?_⟩
  rcases Nat.lt_or_ge a.length v.length with h | h
  · rw [Nat.min_eq_left (Nat.le_of_lt h), List.take_length]
    omega
  · have h2 : xorL a v = xorL (a.take (min a.length v.length)) v ++ a.drop (min a.length v.length) := by
      rw [Nat.min_eq_right h]
      apply ext_getD
      · rw [xorL_length, List.length_append, xorL_length, List.length_take, List.length_drop]
        omega
      · intro i hi
        rw [xorL_getD, List.getD_eq_getElem?_getD (l := _ ++ _), List.getElem?_append]
        have hl : (xorL (a.take v.length) v).length = v.length := by rw [xorL_length, List.length_take]; omega
        rw [hl]
        by_cases e : i < v.length
        · rw [if_pos e, ← List.getD_eq_getElem?_getD, xorL_getD]
          congr 1
          rw [List.getD_eq_getElem?_getD, List.getD_eq_getElem?_getD, List.getElem?_take, if_pos e]
        · rw [if_neg e, getD_of_le (a := v) (by omega), Nat.xor_zero, List.getElem?_drop, List.getD_eq_getElem?_getD]
          congr 2
          omega
    have h3 : cnt (xorL a v) = cnt (xorL (a.take (min a.length v.length)) v) + cnt (a.drop (min a.length v.length)) := by rw [h2, cnt_append]
    omega
/-- The distance as a number without sign. -/
def distN (d : Nat) (t : Int) : Nat := (distZ d t).toNat
theorem distN_cast (d : Nat) (t : Int) : ((distN d t : Nat) : Int) = distZ d t := Int.toNat_of_nonneg (distZ_pos d t)
theorem distN_lt {d e : Nat} {t : Int} : distN d t < distN e t ↔ distZ d t < distZ e t := by
  have := distN_cast d t
  have := distN_cast e t
  omega
/-- What is chosen at last: behind 31 steps, or earlier, where no more is. -/
theorem chTo_last {V : List (List Nat)} {t : Int} {p k : Nat} (hk : k ≤ 31) (h : (nearTo V (chTo V t p k).ch (chTo V t p k).v t V.length).1 = none) : chTo V t p k = chTo V t p 31 := by
  have := chTo_end h (31 - k)
  rw [show k + (31 - k) = 31 by omega] at this
  exact this.symm
theorem chTo_len {V : List (List Nat)} {t : Int} {p : Nat} {m : Nat} (hV : ∀ i, (V.getD i []).length ≤ m) : ∀ k, (chTo V t p k).v.length ≤ m
  | 0 => hV p
  | k + 1 => by
    have ih := chTo_len (t := t) (p := p) hV k
    show (chStep V t (chTo V t p k)).v.length ≤ m
    unfold chStep
    split
    · exact ih
    · rename_i b _
      show (xorL _ _).length ≤ m
      rw [xorL_length]
      have := hV b
      omega
/-- The place where it begins. -/
def placeN (b : Int) (n : Nat) : Nat := ((b.tmod n + n).tmod n).toNat
theorem place_is (b : Int) {n : Nat} (hn : 0 < n) : ((placeN b n : Nat) : Int) = (b.tmod n + n).tmod n ∧ placeN b n < n := by
  have h1 : -(n : Int) < b.tmod n := by
    have := Int.lt_tmod_of_pos b (show (0 : Int) < n by omega)
    omega
  have h2 : 0 ≤ (b.tmod n + n).tmod n := Int.tmod_nonneg _ (by omega)
  have h3 : (b.tmod n + n).tmod n < n := Int.tmod_lt_of_pos _ (by omega)
  unfold placeN
  omega
end Go.Proofs.YtfimbbiholllhaaDoor
