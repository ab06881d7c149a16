/-
  Plain mathematics of a basis of rows of bits, the rows being numbers: what is left of a row, one more row, the span, and that a basis whose lowest bits rise and stand in no other row is one. Of no program, no condition.
  Contracts of words.Get and bucketlineref01.Get at every int: for every row of at most 2^20 words.
-/
import Derived.Test.YtbcgiodgobmkaaaGreatDoorU0
namespace Go.Proofs.YtbcgiodgobmkaaaGreatDoor.Ech

def lowF : Nat → Nat → Nat
  | 0, _ => 0
  | f + 1, x => if x % 2 = 1 then 0 else lowF f (x / 2) + 1
/-- The lowest bit of a number that is not 0. -/
def low (x : Nat) : Nat := lowF x x
theorem lowF_spec : ∀ f x, x ≠ 0 → x ≤ f → x.testBit (lowF f x) = true ∧ ∀ j, j < lowF f x → x.testBit j = false
  | 0, x, h, hf => absurd (Nat.le_zero.1 hf) h
  | f + 1, x, h, hf => by
    unfold lowF
    by_cases e : x % 2 = 1
    · rw [if_pos e]
      exact ⟨by rw [Nat.testBit_zero]; simpa using e, fun j hj => by omega⟩
    · rw [if_neg e]
      obtain ⟨h1, h2⟩ := lowF_spec f (x / 2) (by omega) (by omega)
      refine ⟨by rw [Nat.testBit_succ]; exact h1, fun j hj => ?_⟩
      cases j with
      | zero => rw [Nat.testBit_zero]; simpa using e
      | succ j => rw [Nat.testBit_succ]; exact h2 j (by omega)
theorem low_bit {x : Nat} (h : x ≠ 0) : x.testBit (low x) = true := (lowF_spec x x h (Nat.le_refl _)).1
theorem low_none {x j : Nat} (h : x ≠ 0) (hj : j < low x) : x.testBit j = false := (lowF_spec x x h (Nat.le_refl _)).2 j hj
theorem ne_of_bit {x i : Nat} (h : x.testBit i = true) : x ≠ 0 := by
  rintro rfl
  simp at h
theorem low_unique {x i : Nat} (h : x.testBit i = true) (h2 : ∀ j, j < i → x.testBit j = false) : low x = i := by
  have h0 := ne_of_bit h
  rcases Nat.lt_trichotomy (low x) i with h1 | h1 | h1
  · have := h2 _ h1; rw [low_bit h0] at this; cases this
  · exact h1
  · have := low_none h0 h1; rw [h] at this; cases this
theorem low_le {x i : Nat} (h : x.testBit i = true) : low x ≤ i := by
  rcases Nat.lt_or_ge i (low x) with h1 | h1
  · have := low_none (ne_of_bit h) h1; rw [h] at this; cases this
  · exact h1

theorem xor_cancel (b p q : Nat) : (b ^^^ p) ^^^ (b ^^^ q) = p ^^^ q := by
  apply Nat.eq_of_testBit_eq
  intro i
  simp only [Nat.testBit_xor]
  cases b.testBit i <;> cases p.testBit i <;> cases q.testBit i <;> rfl
theorem xor_left (b p q : Nat) : (b ^^^ p) ^^^ q = b ^^^ (p ^^^ q) := Nat.xor_assoc b p q
theorem xor_mid (b p q : Nat) : p ^^^ (b ^^^ q) = b ^^^ (p ^^^ q) := by
  apply Nat.eq_of_testBit_eq
  intro i
  simp only [Nat.testBit_xor]
  cases b.testBit i <;> cases p.testBit i <;> cases q.testBit i <;> rfl
theorem eq_of_xor {a b : Nat} (h : a ^^^ b = 0) : a = b := by
  apply Nat.eq_of_testBit_eq
  intro i
  have := congrArg (fun x => x.testBit i) h
  simp only [Nat.testBit_xor, Nat.zero_testBit] at this
  revert this
  cases a.testBit i <;> cases b.testBit i <;> simp
theorem xor_back (a b : Nat) : (a ^^^ b) ^^^ b = a := by rw [Nat.xor_assoc, Nat.xor_self, Nat.xor_zero]

/-- What is left of a row. -/
def red (B : List Nat) (v : Nat) : Nat := B.foldl (fun r b => if b ≠ 0 ∧ r.testBit (low b) = true then r ^^^ b else r) v
/-- The xor of those rows whose lowest bit x has. -/
def comb : List Nat → Nat → Nat
  | [], _ => 0
  | b :: B, x => if x.testBit (low b) = true then b ^^^ comb B x else comb B x
/-- What a basis is. -/
def Red (B : List Nat) : Prop := (∀ b ∈ B, b ≠ 0) ∧ B.Pairwise fun a b => low a < low b ∧ a.testBit (low b) = false
/-- What a span has: the xors of some of its rows. -/
def Sp (B : List Nat) (x : Nat) : Prop := ∃ l : List Nat, (∀ b ∈ l, b ∈ B) ∧ l.foldr (fun b a => b ^^^ a) 0 = x
theorem Sp.zero {B : List Nat} : Sp B 0 := ⟨[], (fun _ h => by cases h), rfl⟩
theorem Sp.add {B : List Nat} {b x : Nat} (hb : b ∈ B) (h : Sp B x) : Sp B (b ^^^ x) := by
  obtain ⟨l, h1, rfl⟩ := h
  refine ⟨b :: l, fun c hc => ?_, rfl⟩
  rcases List.mem_cons.1 hc with e | hc
  · rw [e]; exact hb
  · exact h1 c hc
theorem Sp.ind {B : List Nat} {P : Nat → Prop} (h0 : P 0) (hs : ∀ b x, b ∈ B → P x → P (b ^^^ x)) {x : Nat} (h : Sp B x) : P x := by
  obtain ⟨l, h1, rfl⟩ := h
  induction l with
  | nil => exact h0
  | cons b l ih => exact hs b _ (h1 b List.mem_cons_self) (ih fun c hc => h1 c (List.mem_cons_of_mem _ hc))

theorem Sp.of_mem {B : List Nat} {b : Nat} (h : b ∈ B) : Sp B b := by
  have := Sp.add h Sp.zero
  rwa [Nat.xor_zero] at this
theorem Sp.xor {B : List Nat} {x y : Nat} (h : Sp B x) (k : Sp B y) : Sp B (x ^^^ y) := by
  refine Sp.ind (P := fun x => Sp B (x ^^^ y)) (by rw [Nat.zero_xor]; exact k) (fun b x hb ih => ?_) h
  rw [xor_left]
  exact .add hb ih
theorem Sp.of {A B : List Nat} {x : Nat} (h : ∀ a ∈ A, Sp B a) (k : Sp A x) : Sp B x := by
  exact Sp.ind (P := fun x => Sp B x) .zero (fun b x hb ih => (h _ hb).xor ih) k
theorem Sp.mono {A B : List Nat} {x : Nat} (h : ∀ a ∈ A, a ∈ B) (k : Sp A x) : Sp B x := k.of fun a ha => .of_mem (h a ha)

theorem comb_xor (B : List Nat) (x y : Nat) : comb B (x ^^^ y) = comb B x ^^^ comb B y := by
  induction B with
  | nil => simp [comb]
  | cons b B ih =>
    simp only [comb, Nat.testBit_xor, ih]
    cases x.testBit (low b) <;> cases y.testBit (low b)
    · simp
    · simp [xor_mid]
    · simp [xor_left]
    · simp only [Bool.xor_self, if_true]
      rw [xor_cancel]
      rfl
theorem comb_none {B : List Nat} {x : Nat} (h : ∀ b ∈ B, x.testBit (low b) = false) : comb B x = 0 := by
  induction B with
  | nil => rfl
  | cons b B ih =>
    simp only [comb]
    rw [h b List.mem_cons_self, if_neg (by decide)]
    exact ih fun b hb => h b (List.mem_cons_of_mem _ hb)
theorem comb_bit_none {B : List Nat} {x i : Nat} (h : ∀ b ∈ B, b.testBit i = false) : (comb B x).testBit i = false := by
  induction B with
  | nil => simp [comb]
  | cons b B ih =>
    have h1 := h b List.mem_cons_self
    have h2 := ih fun b hb => h b (List.mem_cons_of_mem _ hb)
    simp only [comb]
    split
    · rw [Nat.testBit_xor, h1, h2]; rfl
    · exact h2
theorem sp_comb (B : List Nat) (x : Nat) : Sp B (comb B x) := by
  induction B with
  | nil => exact .zero
  | cons b B ih =>
    have ih' : Sp (b :: B) (comb B x) := ih.mono fun a ha => List.mem_cons_of_mem _ ha
    simp only [comb]
    split
    · exact .add List.mem_cons_self ih'
    · exact ih'

theorem Red.tail {b : Nat} {B : List Nat} (h : Red (b :: B)) : Red B := ⟨fun a ha => h.1 a (List.mem_cons_of_mem _ ha), (List.pairwise_cons.1 h.2).2⟩
theorem Red.head {b : Nat} {B : List Nat} (h : Red (b :: B)) : ∀ a ∈ B, low b < low a ∧ b.testBit (low a) = false := (List.pairwise_cons.1 h.2).1
theorem Red.low_lt {b : Nat} {B : List Nat} (h : Red (b :: B)) {j : Nat} (hj : j ≤ low b) : ∀ a ∈ B, a.testBit j = false := fun a ha =>
  low_none (h.1 a (List.mem_cons_of_mem _ ha)) (Nat.lt_of_le_of_lt hj (h.head a ha).1)
theorem Red.nil : Red [] := ⟨(fun _ h => by cases h), List.Pairwise.nil⟩
theorem comb_mem : ∀ {B : List Nat}, Red B → ∀ {b : Nat}, b ∈ B → comb B b = b
  | [], _, _, hb => by cases hb
  | c :: B, h, b, hb => by
    simp only [comb]
    rcases List.mem_cons.1 hb with e | hb'
    · rw [e, if_pos (low_bit (h.1 c List.mem_cons_self)), comb_none (fun a ha => (h.head a ha).2), Nat.xor_zero]
    · rw [h.low_lt (Nat.le_refl _) b hb', if_neg (by decide)]
      exact comb_mem h.tail hb'
theorem comb_sp {B : List Nat} (h : Red B) {x : Nat} (k : Sp B x) : comb B x = x := by
  refine Sp.ind (P := fun x => comb B x = x) (comb_none fun b _ => Nat.zero_testBit _) (fun b x hb ih => ?_) k
  rw [comb_xor, comb_mem h hb, ih]
theorem comb_bit : ∀ {B : List Nat}, Red B → ∀ {b : Nat} (x : Nat), b ∈ B → (comb B x).testBit (low b) = x.testBit (low b)
  | [], _, _, _, hb => by cases hb
  | c :: B, h, b, x, hb => by
    simp only [comb]
    rcases List.mem_cons.1 hb with e | hb'
    · have h1 := comb_bit_none (x := x) (h.low_lt (Nat.le_refl (low c)))
      rw [e]
      split
      · rename_i hx; rw [Nat.testBit_xor, h1, low_bit (h.1 c List.mem_cons_self), hx]; rfl
      · rename_i hx; rw [h1]; simpa using hx
    · have ih := comb_bit h.tail x hb'
      split
      · rw [Nat.testBit_xor, (h.head b hb').2, ih]; simp
      · exact ih
theorem red_eq : ∀ {B : List Nat}, Red B → ∀ v, red B v = v ^^^ comb B v
  | [], _, v => by simp [red, comb]
  | c :: B, h, v => by
    show red B _ = _
    rw [red_eq h.tail]
    simp only [comb]
    by_cases hv : v.testBit (low c) = true
    · rw [if_pos ⟨h.1 c List.mem_cons_self, hv⟩, if_pos hv, comb_xor, comb_none (fun a ha => (h.head a ha).2), Nat.xor_zero, Nat.xor_assoc]
    · rw [if_neg (fun k => hv k.2), if_neg hv]
theorem red_low {B : List Nat} (h : Red B) (v : Nat) {b : Nat} (hb : b ∈ B) : (red B v).testBit (low b) = false := by
  rw [red_eq h, Nat.testBit_xor, comb_bit h v hb]
  cases v.testBit (low b) <;> rfl
theorem red_zero {B : List Nat} (h : Red B) (v : Nat) : red B v = 0 ↔ Sp B v := by
  rw [red_eq h]
  constructor
  · intro k
    rw [eq_of_xor k]
    exact sp_comb B v
  · intro k
    rw [comb_sp h k, Nat.xor_self]

/-- A row with r's lowest bit taken away. -/
def upd (r b : Nat) : Nat := if b.testBit (low r) = true then b ^^^ r else b
/-- r ahead of the first one whose lowest bit is greater. -/
def put (r : Nat) : List Nat → List Nat
  | [] => [r]
  | b :: B => if low r < low b then r :: b :: B else b :: put r B
def ins (B : List Nat) (v : Nat) : List Nat := if red B v = 0 then B else put (red B v) (B.map (upd (red B v)))

theorem mem_put {r x : Nat} : ∀ {B : List Nat}, x ∈ put r B ↔ x = r ∨ x ∈ B
  | [] => by simp [put]
  | b :: B => by
    simp only [put]
    split
    · simp
    · rw [List.mem_cons, mem_put, List.mem_cons]
      constructor
      · rintro (h | h | h)
        · exact .inr (.inl h)
        · exact .inl h
        · exact .inr (.inr h)
      · rintro (h | h | h)
        · exact .inr (.inl h)
        · exact .inl h
        · exact .inr (.inr h)
theorem put_length (r : Nat) : ∀ B : List Nat, (put r B).length = B.length + 1
  | [] => rfl
  | b :: B => by
    simp only [put]
    split
    · rfl
    · simp [put_length r B]
theorem put_pairs {r : Nat} : ∀ {C : List Nat}, (C.Pairwise fun a b => low a < low b ∧ a.testBit (low b) = false) → (∀ c ∈ C, low c ≠ low r ∧ c.testBit (low r) = false ∧ r.testBit (low c) = false) →
    (put r C).Pairwise fun a b => low a < low b ∧ a.testBit (low b) = false
  | [], _, _ => by simp [put]
  | c :: C, h, k => by
    obtain ⟨h1, h2⟩ := List.pairwise_cons.1 h
    simp only [put]
    split
    · rename_i hlt
      refine List.pairwise_cons.2 ⟨fun a ha => ?_, h⟩
      refine ⟨?_, (k a ha).2.2⟩
      rcases List.mem_cons.1 ha with e | ha'
      · rw [e]; exact hlt
      · have := (h1 a ha').1; omega
    · rename_i hlt
      have hc := k c List.mem_cons_self
      refine List.pairwise_cons.2 ⟨fun a ha => ?_, put_pairs h2 fun a ha => k a (List.mem_cons_of_mem _ ha)⟩
      rcases mem_put.1 ha with e | ha'
      · rw [e]; exact ⟨by omega, hc.2.1⟩
      · exact h1 a ha'

theorem upd_low {B : List Nat} (h : Red B) {v b : Nat} (hr : red B v ≠ 0) (hb : b ∈ B) : low (upd (red B v) b) = low b ∧ upd (red B v) b ≠ 0 := by
  have hl := red_low h v hb
  have hbn := h.1 b hb
  unfold upd
  split
  · rename_i hf
    have h1 : low b < low (red B v) := by
      have h2 := low_le hf
      have h3 : low b ≠ low (red B v) := by
        intro e
        rw [e, low_bit hr] at hl
        cases hl
      omega
    have h4 : (b ^^^ red B v).testBit (low b) = true := by rw [Nat.testBit_xor, low_bit hbn, hl]; rfl
    exact ⟨low_unique h4 fun j hj => by rw [Nat.testBit_xor, low_none hbn hj, low_none hr (by omega)]; rfl, ne_of_bit h4⟩
  · exact ⟨rfl, hbn⟩
theorem upd_bit {B : List Nat} (h : Red B) {v b c : Nat} (hc : c ∈ B) : (upd (red B v) b).testBit (low c) = b.testBit (low c) := by
  unfold upd
  split
  · rw [Nat.testBit_xor, red_low h v hc]; simp
  · rfl
theorem upd_own {r b : Nat} (hr : r ≠ 0) : (upd r b).testBit (low r) = false := by
  unfold upd
  split
  · rename_i hf; rw [Nat.testBit_xor, hf, low_bit hr]; rfl
  · rename_i hf; simpa using hf
theorem Red.ins {B : List Nat} (h : Red B) (v : Nat) : Red (ins B v) := by
  unfold Ech.ins
  split
  · exact h
  · rename_i hr
    refine ⟨fun x hx => ?_, put_pairs ?_ ?_⟩
    · rcases mem_put.1 hx with e | hx'
      · rw [e]; exact hr
      · obtain ⟨b, hb, rfl⟩ := List.mem_map.1 hx'
        exact (upd_low h hr hb).2
    · rw [List.pairwise_map]
      refine List.Pairwise.imp_of_mem ?_ h.2
      intro a b ha hb hab
      rw [(upd_low h hr ha).1, (upd_low h hr hb).1, upd_bit h hb]
      exact hab
    · intro c hc
      obtain ⟨b, hb, rfl⟩ := List.mem_map.1 hc
      have hl := red_low h v hb
      rw [(upd_low h hr hb).1]
      refine ⟨fun e => ?_, upd_own hr, hl⟩
      rw [e, low_bit hr] at hl
      cases hl
theorem upd_back (r b : Nat) : b = upd r b ∨ b = r ^^^ upd r b := by
  unfold upd
  split
  · right
    rw [xor_mid, Nat.xor_self, Nat.xor_zero]
  · exact .inl rfl
theorem sp_ins {B : List Nat} (h : Red B) (v x : Nat) : Sp (ins B v) x ↔ Sp (v :: B) x := by
  have hc : Sp (v :: B) (comb B v) := (sp_comb B v).mono fun a ha => List.mem_cons_of_mem _ ha
  have hrs : Sp (v :: B) (red B v) := by rw [red_eq h]; exact (Sp.of_mem List.mem_cons_self).xor hc
  unfold ins
  split
  · rename_i hr
    have hv := (red_zero h v).1 hr
    exact ⟨fun k => k.mono fun a ha => List.mem_cons_of_mem _ ha, fun k => k.of fun a ha => by
      rcases List.mem_cons.1 ha with e | ha'
      · rw [e]; exact hv
      · exact .of_mem ha'⟩
  · rename_i hr
    have hB : ∀ b ∈ B, Sp (put (red B v) (B.map (upd (red B v)))) b := fun b hb => by
      have h1 : Sp (put (red B v) (B.map (upd (red B v)))) (upd (red B v) b) := .of_mem (mem_put.2 (.inr (List.mem_map.2 ⟨b, hb, rfl⟩)))
      rcases upd_back (red B v) b with e | e
      · rw [e]; exact h1
      · rw [e]; exact (Sp.of_mem (mem_put.2 (.inl rfl))).xor h1
    constructor
    · intro k
      refine k.of fun a ha => ?_
      rcases mem_put.1 ha with e | ha'
      · rw [e]; exact hrs
      · obtain ⟨b, hb, rfl⟩ := List.mem_map.1 ha'
        have hbs : Sp (v :: B) b := .of_mem (List.mem_cons_of_mem _ hb)
        unfold upd
        split
        · exact hbs.xor hrs
        · exact hbs
    · intro k
      refine k.of fun a ha => ?_
      rcases List.mem_cons.1 ha with e | ha'
      · have hv : v = red B v ^^^ comb B v := by rw [red_eq h, xor_back]
        have hx := (Sp.of_mem (mem_put.2 (.inl rfl))).xor ((sp_comb B v).of hB)
        rw [← hv] at hx
        rw [e]
        exact hx
      · exact hB a ha'
theorem ins_length (B : List Nat) (v : Nat) : (ins B v).length ≤ B.length + 1 := by
  unfold ins
  split
  · omega
  · rw [put_length, List.length_map]; exact Nat.le_refl _

def basis (l : List Nat) : List Nat := l.foldl ins []
theorem foldl_ins : ∀ (l B : List Nat), Red B → Red (l.foldl ins B) ∧ (∀ x, Sp (l.foldl ins B) x ↔ Sp (B ++ l) x) ∧ (l.foldl ins B).length ≤ B.length + l.length
  | [], B, h => ⟨h, fun x => by simp, by simp⟩
  | v :: l, B, h => by
    obtain ⟨h1, h2, h3⟩ := foldl_ins l (ins B v) (h.ins v)
    refine ⟨h1, fun x => ?_, ?_⟩
    · show Sp (l.foldl ins (ins B v)) x ↔ _
      rw [h2]
      constructor
      · intro k
        refine k.of fun a ha => ?_
        rcases List.mem_append.1 ha with ha | ha
        · refine ((sp_ins h v a).1 (.of_mem ha)).mono fun c hc => ?_
          rcases List.mem_cons.1 hc with e | hc
          · rw [e]; simp
          · simp [hc]
        · exact .of_mem (by simp [ha])
      · intro k
        refine k.of fun a ha => ?_
        rcases List.mem_append.1 ha with ha | ha
        · exact ((sp_ins h v a).2 (.of_mem (List.mem_cons_of_mem _ ha))).mono fun c hc => List.mem_append_left _ hc
        · rcases List.mem_cons.1 ha with e | ha
          · rw [e]
            exact ((sp_ins h v v).2 (.of_mem List.mem_cons_self)).mono fun c hc => List.mem_append_left _ hc
          · exact .of_mem (List.mem_append_right _ ha)
    · show (l.foldl ins (ins B v)).length ≤ _
      have := ins_length B v
      simp only [List.length_cons]
      omega
theorem red_basis (l : List Nat) : Red (basis l) := (foldl_ins l [] .nil).1
theorem sp_basis (l : List Nat) (x : Nat) : Sp (basis l) x ↔ Sp l x := (foldl_ins l [] .nil).2.1 x

end Go.Proofs.YtbcgiodgobmkaaaGreatDoor.Ech
namespace Go.Proofs.YtbcgiodgobmkaaaGreatDoor
open Go.RowKit
set_option linter.unusedVariables false
set_option linter.unusedSimpArgs false
set_option maxRecDepth 4000

/-- Bit i of a row, for every int. -/
def getI (xs : List Nat) (i : Int) : Bool := if i < 0 then false else getB xs i.toNat
theorem getI_out {xs : List Nat} {i : Int} (h : ¬ (0 ≤ i ∧ i / 64 < (xs.length : Int))) : getI xs i = false := by
  unfold getI
  split
  · rfl
  · exact getB_out xs _ (by omega)
theorem getI_in {xs : List Nat} {i : Int} (h : 0 ≤ i) : getI xs i = getB xs i.toNat := by
  unfold getI
  rw [if_neg (by omega)]
theorem get_any (a : Option Addr) (n c : Nat) (xs : List Nat) (i : Int) (w : World) (h : RowAt w a n xs) (hn : n ≤ 1048576) (hi : i ≤ 9223372036854775807) :
    Calls Tryz.prog 153 #[.slice a n c, .int .i64 i] w fun e w' => e = .returned (.bool (getI xs i)) ∧ ∃ d, w' = w.drewN d := by
  by_cases hin : 0 ≤ i ∧ i / 64 < (xs.length : Int)
  · rw [getI_in hin.1]
    exact get_in a n c xs i w h hin.1 hi (by rw [← h.1]; exact hin.2) (by omega)
  · rw [getI_out hin]
    exact get_out a n c i w hi (by rw [← h.1]; omega)
theorem rget_any (a : Option Addr) (n c : Nat) (xs : List Nat) (i : Int) (w : World) (h : RowAt w a n xs) (hn : n ≤ 1048576) (hi : i ≤ 9223372036854775807) :
    Calls Tryz.prog 37 #[.slice a n c, .int .i64 i] w fun e w' => e = .returned (.bool (getI xs i)) ∧ w' = w := by
  by_cases hin : 0 ≤ i ∧ i / 64 < (xs.length : Int)
  · rw [getI_in hin.1]
    exact rget_in a n c xs i w h hin.1 hi (by rw [← h.1]; exact hin.2) (by omega)
  · rw [getI_out hin]
    exact rget_out a n c i w hi (by rw [← h.1]; omega)
theorem getI_nat (xs : List Nat) (k : Nat) : getI xs (k : Int) = getB xs k := by rw [getI_in (by omega), Int.toNat_natCast]
end Go.Proofs.YtbcgiodgobmkaaaGreatDoor
