/-
  Contracts of words.Unit, bucketlineref01.Unit: for all ints.
  Which packets may be (CheckP); bools and errors' numbers that tell a proposition. No condition.
  How many of the first k bits of a row are set; the xor of two rows bit by bit. Plain lists of words; no condition.
  Packets as data ('PD'): which may be ('okD'), which are of one object ('alkD'). No condition.
  Plain mathematics of a basis of rows of bits, the rows being numbers: what is left of a row, one more row, the span, and that a basis whose lowest bits rise and stand in no other row is one. Of no program, no condition.
  Contracts of words.Get and bucketlineref01.Get at every int: for every row of at most 2^20 words.
-/
import Derived.Test.YtbcgiodgobmkaaaGreatDoorVB
import Derived.Test.YtbcgiodgobmkaaaGreatDoorU5
import Derived.Test.YtbcgiodgobmkaaaGreatDoorBits
import Derived.Test.YtbcgiodgobmkaaaGreatDoorU10
import Derived.Test.YtbcgiodgobmkaaaGreatDoorU8
import Derived.Test.YtbcgiodgobmkaaaGreatDoorU1
namespace Go.Proofs.YtbcgiodgobmkaaaGreatDoor
open Go.RowKit
set_option linter.unusedVariables false
set_option linter.unusedSimpArgs false
set_option maxRecDepth 4000

theorem sizeOfK_le (k : Int) : sizeOfK k ≤ 2 := by
  unfold sizeOfK
  split
  · omega
  · omega

end Go.Proofs.YtbcgiodgobmkaaaGreatDoor
namespace Go.Proofs.YtbcgiodgobmkaaaGreatDoor
set_option linter.unusedVariables false
set_option linter.unusedSimpArgs false
set_option maxRecDepth 4000

/-- A bool that tells P. -/
def TB (b : Bool) (P : Prop) : Prop := b = true ↔ P
theorem tb_ex (P : Prop) : ∃ b, TB b P := by
  by_cases h : P
  · exact ⟨true, by simp [TB, h]⟩
  · exact ⟨false, by simp [TB, h]⟩
theorem TB.no {b : Bool} {P : Prop} (h : TB b P) (hp : ¬ P) : b = false := by
  cases b
  · rfl
  · exact absurd (h.1 rfl) hp
theorem TB.yes {b : Bool} {P : Prop} (h : TB b P) (hp : P) : b = true := h.2 hp
/-- The error's number of what may be, or not. -/
def CkP (en : Nat) (P : Prop) : Prop := (P ∧ en = 0) ∨ (¬ P ∧ en = 1)
theorem CkP.yes {en : Nat} {P : Prop} (h : CkP en P) (hp : P) : en = 0 := by
  rcases h with ⟨_, h⟩ | ⟨h, _⟩
  · exact h
  · exact absurd hp h
theorem CkP.no {en : Nat} {P : Prop} (h : CkP en P) (hp : ¬ P) : en = 1 := by
  rcases h with ⟨h, _⟩ | ⟨_, h⟩
  · exact absurd h hp
  · exact h

def shapedP (k z : Int) : Prop := (1 ≤ k ∧ k ≤ 128) ∧ 1 ≤ z ∧ z ≤ 64
def boundP (o l k z h : Int) : Prop := shapedP k z ∧ (0 ≤ o ∧ o ≤ 4294967295) ∧ (0 ≤ l ∧ l ≤ k * z) ∧ 0 ≤ h ∧ h ≤ 15
def rowedP (k z : Int) (xs : List Nat) (n : Nat) : Prop := ValidP k xs ∧ 0 < cnt xs ∧ (n : Int) = z
/-- A packet that may be: n is how many bytes its text has. -/
def CheckP (o l k z h : Int) (xs : List Nat) (n : Nat) : Prop := boundP o l k z h ∧ rowedP k z xs n
theorem mul_le {k z : Int} (h : shapedP k z) : 0 ≤ k * z ∧ k * z ≤ 8192 := by
  obtain ⟨⟨h1, h2⟩, h3, h4⟩ := h
  have e1 : 0 ≤ k * z := Int.mul_nonneg (by omega) (by omega)
  have e2 : k * z ≤ 128 * z := Int.mul_le_mul_of_nonneg_right h2 (by omega)
  omega

end Go.Proofs.YtbcgiodgobmkaaaGreatDoor
namespace Go.Proofs.YtbcgiodgobmkaaaGreatDoor

/-- How many of the first k bits are set. -/
def upTo (vs : List Nat) : Nat → Nat
  | 0 => 0
  | k + 1 => upTo vs k + if getB vs k then 1 else 0
theorem upTo_le (vs : List Nat) : ∀ k, upTo vs k ≤ k
  | 0 => Nat.le_refl _
  | k + 1 => by
    have := upTo_le vs k
    unfold upTo
    split <;> omega
theorem upTo_mono (vs : List Nat) (n : Nat) : ∀ d, upTo vs n ≤ upTo vs (n + d)
  | 0 => Nat.le_refl _
  | d + 1 => by
    have := upTo_mono vs n d
    show _ ≤ upTo vs (n + d) + _
    omega
theorem upTo_same (vs : List Nat) (n : Nat) (h : ∀ i, n ≤ i → getB vs i = false) : ∀ d, upTo vs (n + d) = upTo vs n
  | 0 => rfl
  | d + 1 => by
    show upTo vs (n + d) + (if getB vs (n + d) then 1 else 0) = _
    rw [upTo_same vs n h d, h (n + d) (by omega)]
    simp
theorem upTo_more (vs : List Nat) (n d i : Nat) (h1 : n ≤ i) (h2 : i < n + d) (hg : getB vs i = true) : upTo vs n < upTo vs (n + d) := by
  have a := upTo_mono vs n (i - n)
  have b := upTo_mono vs (i + 1) (n + d - (i + 1))
  rw [show n + (i - n) = i from by omega] at a
  rw [show i + 1 + (n + d - (i + 1)) = n + d from by omega] at b
  have c : upTo vs (i + 1) = upTo vs i + 1 := by simp [upTo, hg]
  omega
/-- The bits of one word. -/
def tbs (x : Nat) : Nat → Nat
  | 0 => 0
  | f + 1 => tbs x f + if x.testBit f then 1 else 0
theorem tbs_low (x : Nat) : ∀ f, tbs x (f + 1) = x % 2 + tbs (x / 2) f
  | 0 => by
    have : x.testBit 0 = decide (x % 2 = 1) := Nat.testBit_zero x
    simp only [tbs, this]
    by_cases h : x % 2 = 1
    · simp [h]
    · simp [h]; omega
  | f + 1 => by
    have e : x.testBit (f + 1) = (x / 2).testBit f := by rw [Nat.testBit_succ]
    show tbs x (f + 1) + (if x.testBit (f + 1) then 1 else 0) = x % 2 + (tbs (x / 2) f + if (x / 2).testBit f then 1 else 0)
    rw [tbs_low x f, e]
    omega
theorem popF_tbs : ∀ f x, popF f x = tbs x f
  | 0, x => rfl
  | f + 1, x => by
    rw [tbs_low, ← popF_tbs f (x / 2)]
    rfl
theorem getB_cons_lt (x : Nat) (xs : List Nat) (i : Nat) (h : i < 64) : getB (x :: xs) i = x.testBit i := by
  unfold getB
  rw [show i / 64 = 0 from by omega, show i % 64 = i from by omega]
  rfl
theorem getB_cons_ge (x : Nat) (xs : List Nat) (i : Nat) : getB (x :: xs) (64 + i) = getB xs i := by
  unfold getB
  rw [show (64 + i) / 64 = i / 64 + 1 from by omega, show (64 + i) % 64 = i % 64 from by omega]
  rfl
theorem upTo_head (x : Nat) (xs : List Nat) : ∀ f, f ≤ 64 → upTo (x :: xs) f = tbs x f
  | 0, _ => rfl
  | f + 1, h => by
    show upTo (x :: xs) f + _ = tbs x f + _
    rw [upTo_head x xs f (by omega), getB_cons_lt x xs f (by omega)]
theorem upTo_tail (x : Nat) (xs : List Nat) : ∀ k, upTo (x :: xs) (64 + k) = pop x + upTo xs k
  | 0 => by rw [Nat.add_zero, upTo_head x xs 64 (Nat.le_refl _)]; unfold pop; rw [popF_tbs]; rfl
  | k + 1 => by
    show upTo (x :: xs) (64 + k) + (if getB (x :: xs) (64 + k) then 1 else 0) = pop x + (upTo xs k + if getB xs k then 1 else 0)
    rw [upTo_tail x xs k, getB_cons_ge]
    omega
theorem cnt_upTo : ∀ xs, cnt xs = upTo xs (64 * xs.length)
  | [] => rfl
  | x :: xs => by
    rw [cnt_cons, List.length_cons, show 64 * (xs.length + 1) = 64 + 64 * xs.length from by omega, upTo_tail, cnt_upTo xs]
/-- All bits are among the first n just if no bit is set from n on. -/
theorem upTo_cnt (vs : List Nat) (n : Nat) : upTo vs n = cnt vs ↔ ∀ i, n ≤ i → getB vs i = false := by
  rw [cnt_upTo]
  constructor
  · intro h i hi
    by_cases hl : i < 64 * vs.length
    · cases hg : getB vs i with
      | false => rfl
      | true =>
        have := upTo_more vs n (64 * vs.length - n) i hi (by omega) hg
        rw [show n + (64 * vs.length - n) = 64 * vs.length from by omega] at this
        omega
    · exact getB_out vs i (by omega)
  · intro h
    by_cases hl : n ≤ 64 * vs.length
    · have := upTo_same vs n h (64 * vs.length - n)
      rw [show n + (64 * vs.length - n) = 64 * vs.length from by omega] at this
      omega
    · have := upTo_same vs (64 * vs.length) (fun i hi => getB_out vs i hi) (n - 64 * vs.length)
      rw [show 64 * vs.length + (n - 64 * vs.length) = n from by omega] at this
      omega
theorem getB_xorL (a b : List Nat) (i : Nat) : getB (xorL a b) i = (getB a i ^^ getB b i) := by
  unfold getB
  rw [xorL_getD, Nat.testBit_xor]
theorem getB_nil (i : Nat) : getB [] i = false := getB_out [] i (by simp)
end Go.Proofs.YtbcgiodgobmkaaaGreatDoor
namespace Go.Proofs.YtbcgiodgobmkaaaGreatDoor
open Go.RowKit Go.Sort
set_option linter.unusedVariables false
set_option linter.unusedSimpArgs false
set_option maxRecDepth 4000

/-- A packet as data. -/
structure PD where
  o : Int
  l : Int
  k : Int
  z : Int
  h : Int
  xs : List Nat
  s : ByteArray
/-- What stands behind the end of a list of packets. -/
def PD.dflt : PD := ⟨0, 0, 0, 0, 0, [], ⟨#[]⟩⟩
def PKV.pd (p : PKV) : PD := ⟨p.o, p.l, p.k, p.z, p.h, p.r.xs, p.r.s⟩
/-- May it be? -/
def okD (p : PD) : Bool := decide (((1 ≤ p.k ∧ p.k ≤ 128) ∧ 1 ≤ p.z ∧ p.z ≤ 64) ∧ (0 ≤ p.o ∧ p.o ≤ 4294967295) ∧ (0 ≤ p.l ∧ p.l ≤ p.k * p.z) ∧ 0 ≤ p.h ∧ p.h ≤ 15) && (validB p.k p.xs && decide (0 < cnt p.xs) && decide ((p.s.size : Int) = p.z))
theorem okD_iff {p : PD} : okD p = true ↔ CheckP p.o p.l p.k p.z p.h p.xs p.s.size := by
  unfold okD CheckP
  rw [Bool.and_eq_true, Bool.and_eq_true, Bool.and_eq_true, validB_iff, decide_eq_true_eq, decide_eq_true_eq, decide_eq_true_eq]
  unfold boundP shapedP rowedP
  rw [and_assoc (a := ValidP p.k p.xs)]
theorem okD_ck (p : PD) : CkP (if okD p = true then 0 else 1) (CheckP p.o p.l p.k p.z p.h p.xs p.s.size) := by
  by_cases h : okD p = true
  · rw [if_pos h]; exact .inl ⟨okD_iff.1 h, rfl⟩
  · rw [if_neg h]; exact .inr ⟨fun hc => h (okD_iff.2 hc), rfl⟩
theorem okD_valid {p : PD} (h : okD p = true) : ValidP p.k p.xs ∧ 0 < cnt p.xs ∧ (p.s.size : Int) = p.z ∧ 1 ≤ p.k ∧ p.k ≤ 128 ∧ p.z ≤ 64 := by
  obtain ⟨⟨⟨h1, h2⟩, _⟩, h3, h4, h5⟩ := okD_iff.1 h
  exact ⟨h3, h4, h5, h1.1, h1.2, h2.2⟩
theorem okD_len {p : PD} (h : okD p = true) : p.xs.length ≤ 2 := by
  obtain ⟨⟨h1, h2, _⟩, _⟩ := okD_valid h
  have := sizeOfK_le p.k
  omega
theorem okD_cnt {p : PD} (h : okD p = true) : (cnt p.xs : Int) ≤ p.k := by
  obtain ⟨⟨_, _, h3⟩, _, _, hk, _⟩ := okD_valid h
  have h1 := (upTo_cnt p.xs p.k.toNat).2 h3
  have h2 := upTo_le p.xs p.k.toNat
  omega
def vecsD (L : List PD) : List (List Nat) := L.map fun p => p.xs
/-- Are they of the same object? -/
def alkD (q p : PD) : Bool := decide (q.o = p.o ∧ q.l = p.l ∧ q.k = p.k ∧ q.z = p.z)
theorem alk_symm {p q : PD} (h : alkD p q = true) : alkD q p = true := by
  unfold alkD at *
  rw [decide_eq_true_eq] at *
  exact ⟨h.1.symm, h.2.1.symm, h.2.2.1.symm, h.2.2.2.symm⟩
theorem alk_trans {p q r : PD} (h : alkD p q = true) (k : alkD q r = true) : alkD p r = true := by
  unfold alkD at *
  rw [decide_eq_true_eq] at *
  exact ⟨h.1.trans k.1, h.2.1.trans k.2.1, h.2.2.1.trans k.2.2.1, h.2.2.2.trans k.2.2.2⟩
theorem alk_refl (p : PD) : alkD p p = true := by unfold alkD; rw [decide_eq_true_eq]; exact ⟨rfl, rfl, rfl, rfl⟩
theorem ckD_no {p : PKV} (h : okD p.pd = false) : CkP 1 (CheckP p.o p.l p.k p.z p.h p.r.xs p.r.s.size) := by
  have := okD_ck p.pd
  rw [h] at this
  exact this
theorem ckD_yes {p : PKV} (h : okD p.pd = true) : CkP 0 (CheckP p.o p.l p.k p.z p.h p.r.xs p.r.s.size) := by
  have := okD_ck p.pd
  rw [h] at this
  exact this
theorem pdGet {ps : List PKV} {i : Nat} (hi : i < ps.length) : (ps.map PKV.pd).getD i .dflt = (ps.getD i .dflt).pd := by
  rw [List.getD_eq_getElem?_getD, List.getElem?_map, List.getElem?_eq_getElem hi, List.getD_eq_getElem?_getD, List.getElem?_eq_getElem hi]
  rfl
end Go.Proofs.YtbcgiodgobmkaaaGreatDoor
namespace Go.Proofs.YtbcgiodgobmkaaaGreatDoor.Ech

def lowF : Nat → Nat → Nat
  | 0, _ => 0
  | f + 1, x => if x % 2 = 1 then 0 else lowF f (x / 2) + 1
/-- The lowest bit of a number that is not 0. -/
def low (x : Nat) : Nat := lowF x x
theorem lowF_spec : ∀ f x, x ≠ 0 → x ≤ f → x.testBit (lowF f x) = true ∧ ∀ j, j < lowF f x → x.testBit j = false
  | 0, x, h, hf => absurd (Nat.le_zero.1 hf) h
  | f + 1, x, h, hf => by
    unfold lowF
    by_cases e : x % 2 = 1
    · rw [if_pos e]
      exact ⟨by rw [Nat.testBit_zero]; simpa using e, fun j hj => by omega⟩
    · rw [if_neg e]
      obtain ⟨h1, h2⟩ := lowF_spec f (x / 2) (by omega) (by omega)
      refine ⟨by rw [Nat.testBit_succ]; exact h1, fun j hj => ?_⟩
      cases j with
      | zero => rw [Nat.testBit_zero]; simpa using e
      | succ j => rw [Nat.testBit_succ]; exact h2 j (by omega)
theorem low_bit {x : Nat} (h : x ≠ 0) : x.testBit (low x) = true := (lowF_spec x x h (Nat.le_refl _)).1
theorem low_none {x j : Nat} (h : x ≠ 0) (hj : j < low x) : x.testBit j = false := (lowF_spec x x h (Nat.le_refl _)).2 j hj
theorem ne_of_bit {x i : Nat} (h : x.testBit i = true) : x ≠ 0 := by
  rintro rfl
  simp at h
theorem low_unique {x i : Nat} (h : x.testBit i = true) (h2 : ∀ j, j < i → x.testBit j = false) : low x = i := by
  have h0 := ne_of_bit h
  rcases Nat.lt_trichotomy (low x) i with h1 | h1 | h1
  · have := h2 _ h1; rw [low_bit h0] at this; cases this
  · exact h1
  · have := low_none h0 h1; rw [h] at this; cases this

/-- What is left of a row. -/
def red (B : List Nat) (v : Nat) : Nat := B.foldl (fun r b => if b ≠ 0 ∧ r.testBit (low b) = true then r ^^^ b else r) v

/-- r ahead of the first one whose lowest bit is greater. -/
def put (r : Nat) : List Nat → List Nat
  | [] => [r]
  | b :: B => if low r < low b then r :: b :: B else b :: put r B

end Go.Proofs.YtbcgiodgobmkaaaGreatDoor.Ech
namespace Go.Proofs.YtbcgiodgobmkaaaGreatDoor
open Go.RowKit
set_option linter.unusedVariables false
set_option linter.unusedSimpArgs false
set_option maxRecDepth 4000

/-- Bit i of a row, for every int. -/
def getI (xs : List Nat) (i : Int) : Bool := if i < 0 then false else getB xs i.toNat
theorem getI_out {xs : List Nat} {i : Int} (h : ¬ (0 ≤ i ∧ i / 64 < (xs.length : Int))) : getI xs i = false := by
  unfold getI
  split
  · rfl
  · exact getB_out xs _ (by omega)
theorem getI_in {xs : List Nat} {i : Int} (h : 0 ≤ i) : getI xs i = getB xs i.toNat := by
  unfold getI
  rw [if_neg (by omega)]
theorem get_any (a : Option Addr) (n c : Nat) (xs : List Nat) (i : Int) (w : World) (h : RowAt w a n xs) (hn : n ≤ 1048576) (hi : i ≤ 9223372036854775807) :
    Calls Tryz.prog 153 #[.slice a n c, .int .i64 i] w fun e w' => e = .returned (.bool (getI xs i)) ∧ ∃ d, w' = w.drewN d := by
  by_cases hin : 0 ≤ i ∧ i / 64 < (xs.length : Int)
  · rw [getI_in hin.1]
    exact get_in a n c xs i w h hin.1 hi (by rw [← h.1]; exact hin.2) (by omega)
  · rw [getI_out hin]
    exact get_out a n c i w hi (by rw [← h.1]; omega)
theorem rget_any (a : Option Addr) (n c : Nat) (xs : List Nat) (i : Int) (w : World) (h : RowAt w a n xs) (hn : n ≤ 1048576) (hi : i ≤ 9223372036854775807) :
    Calls Tryz.prog 37 #[.slice a n c, .int .i64 i] w fun e w' => e = .returned (.bool (getI xs i)) ∧ w' = w := by
  by_cases hin : 0 ≤ i ∧ i / 64 < (xs.length : Int)
  · rw [getI_in hin.1]
    exact rget_in a n c xs i w h hin.1 hi (by rw [← h.1]; exact hin.2) (by omega)
  · rw [getI_out hin]
    exact rget_out a n c i w hi (by rw [← h.1]; omega)
theorem getI_nat (xs : List Nat) (k : Nat) : getI xs (k : Int) = getB xs k := by rw [getI_in (by omega), Int.toNat_natCast]
theorem rgetN_any (a : Option Addr) (n c : Nat) (xs : List Nat) (k : Nat) (w : World) (h : RowAt w a n xs) (hn : n ≤ 1048576) (hk : k ≤ 9223372036854775807) :
    Calls Tryz.prog 37 #[.slice a n c, .int .i64 (k : Int)] w fun e w' => e = .returned (.bool (getB xs k)) ∧ w' = w := by
  refine (rget_any a n c xs k w h hn (by omega)).mono ?_
  rintro e w' ⟨rfl, rfl⟩
  rw [getI_nat]
  exact ⟨rfl, rfl⟩
end Go.Proofs.YtbcgiodgobmkaaaGreatDoor
