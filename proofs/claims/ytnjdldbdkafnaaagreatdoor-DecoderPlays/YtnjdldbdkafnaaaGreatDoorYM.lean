/-
  Plain mathematics of peeling: rows of bits without the known ones, what is told one after the other, what is left; what two ways of it share. Of no program.
-/
import Derived.Test.YtnjdldbdkafnaaaGreatDoorU4
import Derived.Test.YtnjdldbdkafnaaaGreatDoorU6
namespace Go.Proofs.YtnjdldbdkafnaaaGreatDoor
open Go.RowKit Go.Sort
set_option linter.unusedVariables false
set_option linter.unusedSimpArgs false
set_option maxRecDepth 4000

/-- x without the bits of y. -/
def anW (x y : Nat) : Nat := x ^^^ (x &&& y)
theorem anW_bit (x y i : Nat) : (anW x y).testBit i = (x.testBit i && !y.testBit i) := by
  unfold anW
  rw [Nat.testBit_xor, Nat.testBit_and]
  cases x.testBit i <;> cases y.testBit i <;> rfl
theorem anW_lt (x y : Nat) (hx : x < 18446744073709551616) : anW x y < 18446744073709551616 := by
  unfold anW
  have : x &&& y ≤ x := Nat.and_le_left
  exact Nat.xor_lt_two_pow (n := 64) (by omega) (by omega)
theorem anW_zero (x : Nat) : anW x 0 = x := by simp [anW]
theorem anW_num (x y : Nat) (hx : x < 18446744073709551616) (hy : y < 18446744073709551616) : bits .andNot .u64 (x : Int) (y : Int) = ((anW x y : Nat) : Int) := by
  rw [u64_andNot_nat x y hx hy]
  congr 1
  apply Nat.eq_of_testBit_eq
  intro i
  rw [anW_bit, Nat.testBit_and, show 18446744073709551615 - y = 2 ^ 64 - (y + 1) by omega, Nat.testBit_two_pow_sub_succ (by omega)]
  by_cases hi : i < 64
  · simp [hi]
  · have hz : x.testBit i = false := Nat.testBit_lt_two_pow (Nat.lt_of_lt_of_le (show x < 2 ^ 64 by omega) (Nat.pow_le_pow_right (by decide) (by omega)))
    simp [hz]

theorem ext_bits {a b : List Nat} (hl : a.length = b.length) (ha : smalls a) (hb : smalls b) (h : ∀ i, getB a i = getB b i) : a = b := by
  apply ext_getD hl
  intro i _
  apply Nat.eq_of_testBit_eq
  intro j
  by_cases hj : j < 64
  · have := h (64 * i + j)
    rwa [getB_at a i j hj, getB_at b i j hj] at this
  · have hp : (2 : Nat) ^ 64 ≤ 2 ^ j := Nat.pow_le_pow_right (by decide) (by omega)
    have h1 := ha.get i
    have h2 := hb.get i
    rw [Nat.testBit_lt_two_pow (by omega), Nat.testBit_lt_two_pow (by omega)]
theorem upTo_zero {vs : List Nat} : ∀ n, upTo vs n = 0 ↔ ∀ i, i < n → getB vs i = false
  | 0 => by simp [upTo]
  | n + 1 => by
    unfold upTo
    constructor
    · intro h i hi
      have h1 := (upTo_zero (vs := vs) n).1 (by omega)
      by_cases e : i = n
      · subst e; cases hg : getB vs i
        · rfl
        · rw [hg] at h; simp at h
      · exact h1 i (by omega)
    · intro h
      rw [(upTo_zero n).2 (fun i hi => h i (by omega)), h n (by omega)]; rfl
theorem upTo_one {vs : List Nat} : ∀ n, upTo vs n = 1 ↔ ∃ b, b < n ∧ getB vs b = true ∧ ∀ i, i < n → i ≠ b → getB vs i = false
  | 0 => by simp [upTo]
  | n + 1 => by
    unfold upTo
    cases hg : getB vs n
    · simp only [Bool.false_eq_true, if_false, Nat.add_zero]
      rw [upTo_one n]
      constructor
      · rintro ⟨b, hb, h1, h2⟩
        refine ⟨b, by omega, h1, fun i hi hne => ?_⟩
        by_cases e : i = n
        · rw [e]; exact hg
        · exact h2 i (by omega) hne
      · rintro ⟨b, hb, h1, h2⟩
        have : b ≠ n := fun e => by rw [e, hg] at h1; cases h1
        exact ⟨b, by omega, h1, fun i hi hne => h2 i (by omega) hne⟩
    · simp only [if_true]
      constructor
      · intro h
        have h1 := (upTo_zero n).1 (show upTo vs n = 0 by omega)
        exact ⟨n, by omega, hg, fun i hi hne => h1 i (by omega)⟩
      · rintro ⟨b, hb, h1, h2⟩
        have hbn : b = n := by
          by_cases e : b = n
          · exact e
          · have := h2 n (by omega) (Ne.symm e); rw [hg] at this; cases this
        subst hbn
        rw [(upTo_zero b).2 (fun i hi => h2 i (by omega) (by omega))]
theorem cnt_none {xs : List Nat} : cnt xs = 0 ↔ ∀ i, getB xs i = false := by
  rw [cnt_upTo, upTo_zero]
  constructor
  · intro h i
    by_cases hi : i < 64 * xs.length
    · exact h i hi
    · exact getB_out xs i (by omega)
  · exact fun h i _ => h i
theorem cnt_one {xs : List Nat} : cnt xs = 1 ↔ ∃ b, ∀ i, getB xs i = decide (i = b) := by
  rw [cnt_upTo, upTo_one]
  constructor
  · rintro ⟨b, hb, h1, h2⟩
    refine ⟨b, fun i => ?_⟩
    by_cases e : i = b
    · rw [e, h1]; simp
    · rw [decide_eq_false e]
      by_cases hi : i < 64 * xs.length
      · exact h2 i hi e
      · exact getB_out xs i (by omega)
  · rintro ⟨b, h⟩
    have hb : getB xs b = true := by rw [h b]; simp
    refine ⟨b, ?_, hb, fun i _ hne => by rw [h i, decide_eq_false hne]⟩
    rcases Nat.lt_or_ge b (64 * xs.length) with h0 | h0
    · exact h0
    · rw [getB_out xs b h0] at hb; cases hb
theorem firstI_bit : ∀ {xs : List Nat}, smalls xs → (∃ i, getB xs i = true) → ∃ f : Nat, firstI xs = (f : Int) ∧ getB xs f = true ∧ ∀ j, j < f → getB xs j = false
  | [], _, h => by
    obtain ⟨i, hi⟩ := h
    rw [getB_nil] at hi
    cases hi
  | x :: r, hs, h => by
    have hx : x < 18446744073709551616 := hs x List.mem_cons_self
    by_cases h0 : x = 0
    · subst h0
      obtain ⟨i, hi⟩ := h
      have hi64 : 64 ≤ i := by
        rcases Nat.lt_or_ge i 64 with hl | hl
        · rw [getB_cons_lt 0 r i hl] at hi; simp at hi
        · exact hl
      obtain ⟨f, h1, h2, h3⟩ := firstI_bit (xs := r) (fun y hy => hs y (List.mem_cons_of_mem _ hy)) ⟨i - 64, by rw [← getB_cons_ge 0 r (i - 64), show 64 + (i - 64) = i by omega]; exact hi⟩
      refine ⟨64 + f, ?_, by rw [getB_cons_ge]; exact h2, fun j hj => ?_⟩
      · simp only [firstI]
        rw [h1]
        simp
        omega
      · rcases Nat.lt_or_ge j 64 with hl | hl
        · rw [getB_cons_lt 0 r j hl]; simp
        · have := h3 (j - 64) (by omega)
          rw [← getB_cons_ge 0 r (j - 64), show 64 + (j - 64) = j by omega] at this
          exact this
    · refine ⟨Lib.ctz 64 x, by simp [firstI, h0], ?_, fun j hj => ?_⟩
      · rw [getB_cons_lt x r _ (ctz_lt x h0 hx)]; exact ctz_bit x h0 hx
      · rw [getB_cons_lt x r _ (by have := ctz_lt x h0 hx; omega)]; exact ctz_low x j h0 hx hj
theorem firstI_one {xs : List Nat} {b : Nat} (hs : smalls xs) (h : ∀ i, getB xs i = decide (i = b)) : firstI xs = (b : Int) := by
  obtain ⟨f, h1, h2, _⟩ := firstI_bit hs ⟨b, by rw [h b]; simp⟩
  rw [h f] at h2
  rw [h1, of_decide_eq_true h2]

theorem bit_setB (xs : List Nat) (i j : Nat) (on : Bool) (h : i < 64 * xs.length) : getB (setB xs i on) j = if j = i then on else getB xs j := by
  unfold getB setB
  rw [getD_set]
  by_cases e : j / 64 = i / 64
  · rw [if_pos ⟨e, by omega⟩, e]
    unfold setW
    by_cases e2 : j = i
    · subst e2
      rw [if_pos rfl]
      split
      · assumption
      · rename_i hb
        rw [Nat.testBit_xor, Nat.testBit_two_pow]
        simp only [decide_true]
        cases hx : (xs.getD (j / 64) 0).testBit (j % 64) <;> rw [hx] at hb <;> cases on <;> simp_all
    · rw [if_neg e2]
      have hne : ¬ i % 64 = j % 64 := by omega
      split
      · rfl
      · rw [Nat.testBit_xor, Nat.testBit_two_pow]
        simp [hne]
  · rw [if_neg (by omega), if_neg (fun e2 => e (by rw [e2]))]
theorem bit_zeros (n i : Nat) : getB (List.replicate n 0) i = false := by
  unfold getB
  rw [show (List.replicate n 0).getD (i / 64) 0 = 0 from ?_]
  · simp
  · rw [List.getD_eq_getElem?_getD]
    by_cases h : i / 64 < n
    · simp [h]
    · simp [h]
theorem smalls_setB {xs : List Nat} (h : smalls xs) (i : Nat) (on : Bool) : smalls (setB xs i on) := h.set _ _ (setW_lt _ _ _ (h.get _) (by omega))
theorem unit_eq {k : Int} {b : Nat} (hb : (b : Int) < k) : unitL k b = setB (List.replicate (sizeOfK k) 0) b true := by
  unfold unitL setI
  rw [if_neg (by omega), if_neg (by omega), Int.toNat_natCast]
theorem unit_len {k : Int} {b : Nat} (hb : (b : Int) < k) : (unitL k b).length = sizeOfK k := by
  rw [unit_eq hb, setB_length, List.length_replicate]
theorem unit_bit {k : Int} {b : Nat} (hs : 0 < sizeOfK k) (hb : (b : Int) < k) (i : Nat) : getB (unitL k b) i = decide (i = b) := by
  have := size_room hs
  rw [unit_eq hb, bit_setB _ _ _ _ (by rw [List.length_replicate]; omega), bit_zeros]
  by_cases e : i = b
  · simp [e]
  · simp [e]
theorem unit_small {k : Int} {b : Nat} (hb : (b : Int) < k) : smalls (unitL k b) := by rw [unit_eq hb]; exact smalls_setB (smalls_zeros _) _ _

/-- A row without the bits of another one. -/
def dropL (v kn : List Nat) : List Nat := (List.range v.length).map fun i => anW (v.getD i 0) (kn.getD i 0)
theorem dropL_length (v kn : List Nat) : (dropL v kn).length = v.length := by simp [dropL]
theorem dropL_getD (v kn : List Nat) (i : Nat) : (dropL v kn).getD i 0 = anW (v.getD i 0) (kn.getD i 0) := by
  unfold dropL
  rw [getD_range_map]
  split
  · rfl
  · rw [getD_of_le (a := v) (by omega)]; simp [anW]
theorem dropL_bit (v kn : List Nat) (i : Nat) : getB (dropL v kn) i = (getB v i && !getB kn i) := by
  unfold getB
  rw [dropL_getD, anW_bit]
theorem dropL_small {v : List Nat} (h : smalls v) (kn : List Nat) : smalls (dropL v kn) := by
  intro x hx
  obtain ⟨i, hi, rfl⟩ := List.getElem_of_mem hx
  have := dropL_getD v kn i
  rw [List.getD_eq_getElem?_getD, List.getElem?_eq_getElem hi] at this
  simp only [Option.getD_some] at this
  rw [this]
  exact anW_lt _ _ (h.get i)
/-- So far. -/
def dropTo (v kn : List Nat) (k : Nat) : List Nat := (List.range v.length).map fun i => if i < k then anW (v.getD i 0) (kn.getD i 0) else v.getD i 0
theorem dropTo_length (v kn : List Nat) (k : Nat) : (dropTo v kn k).length = v.length := by simp [dropTo]
theorem dropTo_getD (v kn : List Nat) (k i : Nat) (h : i < v.length) : (dropTo v kn k).getD i 0 = if i < k then anW (v.getD i 0) (kn.getD i 0) else v.getD i 0 := by
  unfold dropTo; rw [getD_range_map, if_pos h]
theorem dropTo_zero (v kn : List Nat) : dropTo v kn 0 = v := by
  apply ext_getD (dropTo_length v kn 0)
  intro i h; rw [dropTo_getD v kn 0 i (by rwa [dropTo_length] at h)]; simp
theorem dropTo_succ (v kn : List Nat) (k : Nat) (hk : k < v.length) : (dropTo v kn k).set k (anW (v.getD k 0) (kn.getD k 0)) = dropTo v kn (k + 1) := by
  apply ext_getD
  · simp [dropTo_length]
  · intro i h
    have hi : i < v.length := by simpa [dropTo_length] using h
    rw [getD_set, dropTo_getD v kn k i hi, dropTo_getD v kn (k + 1) i hi, dropTo_length]
    by_cases e : i = k
    · subst e; simp [hk]
    · simp only [e, false_and, if_false]
      by_cases h1 : i < k
      · simp [h1, Nat.lt_succ_of_lt h1]
      · simp [h1, show ¬ i < k + 1 by omega]
theorem dropTo_all (v kn : List Nat) (k : Nat) (h : min v.length kn.length ≤ k) : dropTo v kn k = dropL v kn := by
  apply ext_getD
  · rw [dropTo_length, dropL_length]
  · intro i hi
    have hi' : i < v.length := by rwa [dropTo_length] at hi
    rw [dropTo_getD v kn _ i hi', dropL_getD]
    split
    · rfl
    · rw [getD_of_le (a := kn) (by omega), anW_zero]
theorem dropL_twice (v a b : List Nat) (h : ∀ i, getB a i = true → getB b i = true) (hs : smalls v) : dropL (dropL v a) b = dropL v b := by
  refine ext_bits (by simp [dropL_length]) (dropL_small (dropL_small hs _) _) (dropL_small hs _) fun i => ?_
  rw [dropL_bit, dropL_bit, dropL_bit]
  cases ha : getB a i
  · simp
  · rw [h i ha]; simp

/-- A text without the known blocks of its row. -/
def txtL (bs : List ByteArray) (xs : List Nat) (s : ByteArray) : ByteArray := xorS s (st (ofL bs xs bs.length))
/-- A row tells a block. -/
def tellsB (k : Int) (kn : List Nat) (r : RV) : Bool := validB k r.xs && decide (cnt (dropL r.xs kn) = 1)
/-- Which. -/
def blkOf (kn : List Nat) (r : RV) : Nat := (firstI (dropL r.xs kn)).toNat
/-- What is known behind j rows that told a block. -/
def Run (k : Int) (rs : List RV) : Nat → List Nat → List ByteArray → Prop
  | 0, kn, bs => kn = List.replicate (sizeOfK k) 0 ∧ bs = List.replicate k.toNat ByteArray.empty
  | j + 1, kn, bs => ∃ kn0 bs0 r, Run k rs j kn0 bs0 ∧ rs.find? (tellsB k kn0) = some r ∧ kn = setB kn0 (blkOf kn0 r) true ∧ bs = bs0.set (blkOf kn0 r) (txtL bs0 r.xs r.s)
/-- What is known at the end. -/
def PeelP (k : Int) (rs : List RV) (kn : List Nat) (bs : List ByteArray) : Prop := (∃ j, Run k rs j kn bs) ∧ rs.find? (tellsB k kn) = none
theorem Run.uniq {k : Int} {rs : List RV} : ∀ {j : Nat} {kn kn' : List Nat} {bs bs' : List ByteArray}, Run k rs j kn bs → Run k rs j kn' bs' → kn = kn' ∧ bs = bs'
  | 0, _, _, _, _, ⟨h1, h2⟩, ⟨h3, h4⟩ => ⟨by rw [h1, h3], by rw [h2, h4]⟩
  | j + 1, _, _, _, _, ⟨a, b, r, h1, h2, h3, h4⟩, ⟨a', b', r', g1, g2, g3, g4⟩ => by
    obtain ⟨rfl, rfl⟩ := Run.uniq h1 g1
    rw [h2] at g2
    obtain rfl := Option.some.inj g2
    exact ⟨by rw [h3, g3], by rw [h4, g4]⟩
theorem Run.before {k : Int} {rs : List RV} : ∀ {d i : Nat} {kn : List Nat} {bs : List ByteArray}, Run k rs (i + d + 1) kn bs → ∃ kn0 bs0 r, Run k rs i kn0 bs0 ∧ rs.find? (tellsB k kn0) = some r
  | 0, i, _, _, ⟨a, b, r, h1, h2, _⟩ => ⟨a, b, r, h1, h2⟩
  | d + 1, i, _, _, ⟨a, b, r, h1, h2, _⟩ => Run.before (d := d) h1
theorem PeelP.uniq {k : Int} {rs : List RV} {kn kn' : List Nat} {bs bs' : List ByteArray} (h : PeelP k rs kn bs) (g : PeelP k rs kn' bs') : kn = kn' ∧ bs = bs' := by
  obtain ⟨⟨j, hj⟩, he⟩ := h
  obtain ⟨⟨i, hi⟩, ge⟩ := g
  have key : ∀ {a b : Nat} {x x' : List Nat} {y y' : List ByteArray}, Run k rs a x y → rs.find? (tellsB k x) = none → Run k rs b x' y' → ¬ a < b := by
    intro a b x x' y y' h1 h2 h3 hlt
    obtain ⟨x0, y0, r, g1, g2⟩ := Run.before (d := b - a - 1) (i := a) (by rw [show a + (b - a - 1) + 1 = b by omega]; exact h3)
    obtain ⟨rfl, -⟩ := Run.uniq h1 g1
    rw [h2] at g2
    cases g2
  have h1 := key hj he hi
  have h2 := key hi ge hj
  obtain rfl : i = j := by omega
  exact hj.uniq hi
/-- The rows that are none make no difference. -/
theorem Run.valid {k : Int} {rs : List RV} : ∀ {j : Nat} {kn : List Nat} {bs : List ByteArray}, Run k (rs.filter fun r => validB k r.xs) j kn bs ↔ Run k rs j kn bs
  | 0, _, _ => Iff.rfl
  | j + 1, kn, bs => by
    have hf : ∀ x, (rs.filter fun r => validB k r.xs).find? (tellsB k x) = rs.find? (tellsB k x) := fun x => by
      rw [List.find?_filter]
      congr 1
      funext r
      unfold tellsB
      cases validB k r.xs <;> simp
    unfold Run
    simp only [Run.valid (j := j), hf]
theorem find_valid {k : Int} {rs : List RV} (x : List Nat) : (rs.filter fun r => validB k r.xs).find? (tellsB k x) = rs.find? (tellsB k x) := by
  rw [List.find?_filter]
  congr 1
  funext r
  unfold tellsB
  cases validB k r.xs <;> simp
theorem PeelP.valid {k : Int} {rs : List RV} {kn : List Nat} {bs : List ByteArray} : PeelP k (rs.filter fun r => validB k r.xs) kn bs ↔ PeelP k rs kn bs := by
  unfold PeelP
  simp only [Run.valid, find_valid]
/-- The first that tells one. -/
theorem find_at {rs : List RV} {f : RV → Bool} {p : Nat} (hp : p < rs.length) (h : f (rs.getD p .dflt) = true) (hn : ∀ j, j < p → f (rs.getD j .dflt) = false) : rs.find? f = some (rs.getD p .dflt) := by
  rw [List.find?_eq_some_iff_getElem]
  rw [List.getD_eq_getElem?_getD, List.getElem?_eq_getElem hp] at h ⊢
  refine ⟨h, p, hp, rfl, fun j hj => ?_⟩
  have := hn j hj
  rw [List.getD_eq_getElem?_getD, List.getElem?_eq_getElem (by omega)] at this
  simpa using this
theorem find_no {rs : List RV} {f : RV → Bool} (hn : ∀ j, j < rs.length → f (rs.getD j .dflt) = false) : rs.find? f = none := by
  rw [List.find?_eq_none]
  intro r hr
  obtain ⟨i, hi, rfl⟩ := List.mem_iff_getElem.1 hr
  have := hn i hi
  rw [List.getD_eq_getElem?_getD, List.getElem?_eq_getElem hi] at this
  simpa using this

/-- What a row that tells a block tells. -/
theorem tells_bit {k : Int} {kn : List Nat} {r : RV} (hr : smalls r.xs) (h : tellsB k kn r = true) :
    validB k r.xs = true ∧ (∀ i, getB (dropL r.xs kn) i = decide (i = blkOf kn r)) ∧ getB kn (blkOf kn r) = false ∧ getB r.xs (blkOf kn r) = true ∧ blkOf kn r < k.toNat ∧ firstI (dropL r.xs kn) = (blkOf kn r : Int) := by
  unfold tellsB at h
  rw [Bool.and_eq_true, decide_eq_true_eq, cnt_one] at h
  obtain ⟨hv, b, hb⟩ := h
  have hf := firstI_one (dropL_small hr kn) hb
  have e : blkOf kn r = b := by unfold blkOf; rw [hf, Int.toNat_natCast]
  rw [e]
  have h1 := hb b
  rw [dropL_bit] at h1
  simp at h1
  exact ⟨hv, hb, h1.2, h1.1, (valid_size hv).2.2 b h1.1, hf⟩
/-- What is known all along. -/
structure Kn (k : Int) (j : Nat) (kn : List Nat) (bs : List ByteArray) : Prop where
  size : 0 < sizeOfK k
  len : kn.length = sizeOfK k
  small : smalls kn
  lenb : bs.length = k.toNat
  below : ∀ i, getB kn i = true → i < k.toNat
  none : ∀ i, getB kn i = false → bs.getD i ByteArray.empty = ByteArray.empty
  many : upTo kn k.toNat = j
  short : ∀ i, (bs.getD i ByteArray.empty).size ≤ 1000
theorem getD_set_tx (ss : List ByteArray) (k i : Nat) (z : ByteArray) : (ss.set k z).getD i ByteArray.empty = if i = k ∧ k < ss.length then z else ss.getD i ByteArray.empty := by
  rw [List.getD_eq_getElem?_getD, List.getD_eq_getElem?_getD, List.getElem?_set]
  by_cases h : k = i
  · subst h
    by_cases h2 : k < ss.length
    · simp [h2]
    · simp [h2]
  · have h' : ¬ i = k := fun e => h e.symm
    simp [h, h']
theorem upTo_set {xs : List Nat} {b : Nat} (hb : b < 64 * xs.length) (h : getB xs b = false) : ∀ n, upTo (setB xs b true) n = upTo xs n + if b < n then 1 else 0
  | 0 => by simp [upTo]
  | n + 1 => by
    unfold upTo
    rw [upTo_set hb h n, bit_setB _ _ _ _ hb]
    by_cases e : n = b
    · subst e; simp [h]
    · rw [if_neg e]
      have e1 : (if b < n + 1 then 1 else 0 : Nat) = if b < n then 1 else 0 := by
        by_cases h1 : b < n
        · rw [if_pos h1, if_pos (by omega)]
        · rw [if_neg h1, if_neg (by omega)]
      rw [e1]
      omega
theorem ofL_le {ss : List ByteArray} (h : ∀ i, (ss.getD i ByteArray.empty).size ≤ 1000) (vs : List Nat) : ∀ n, (ofL ss vs n).length ≤ 1000
  | 0 => by simp [ofL]
  | n + 1 => by
    have := ofL_le h vs n
    have := h n
    unfold ofL
    split
    · rw [xorL_length, tx_length]; omega
    · assumption
theorem txtL_size {bs : List ByteArray} {xs : List Nat} {s : ByteArray} (h : ∀ i, (bs.getD i ByteArray.empty).size ≤ 1000) (hs : s.size ≤ 1000) : (txtL bs xs s).size ≤ 1000 := by
  unfold txtL
  rw [xorS_size, st_size (ofL_bytes _ _ _)]
  have := ofL_le h xs bs.length
  omega
/-- Rows as they come in: words below 2^64, texts of at most 1000 bytes. -/
def Good (rs : List RV) : Prop := ∀ r ∈ rs, smalls r.xs ∧ r.s.size ≤ 1000
theorem Kn.start {k : Int} (hs : 0 < sizeOfK k) : Kn k 0 (List.replicate (sizeOfK k) 0) (List.replicate k.toNat ByteArray.empty) := by
  have he : ∀ i, (List.replicate k.toNat ByteArray.empty).getD i ByteArray.empty = ByteArray.empty := fun i => by
    rw [List.getD_eq_getElem?_getD]
    by_cases h : i < k.toNat
    · simp [h]
    · simp [h]
  exact ⟨hs, by simp, smalls_zeros _, by simp, (fun i hi => by rw [bit_zeros] at hi; cases hi), fun i _ => he i, (upTo_zero _).2 (fun i _ => bit_zeros _ _), fun i => by rw [he]; decide⟩
theorem Kn.step {k : Int} {j : Nat} {kn : List Nat} {bs : List ByteArray} (h : Kn k j kn bs) {r : RV} (hr : smalls r.xs) (hz : r.s.size ≤ 1000) (ht : tellsB k kn r = true) :
    Kn k (j + 1) (setB kn (blkOf kn r) true) (bs.set (blkOf kn r) (txtL bs r.xs r.s)) := by
  obtain ⟨hv, hb, hk, hx, hlt, hf⟩ := tells_bit hr ht
  have hroom := size_room h.size
  have hin : blkOf kn r < 64 * kn.length := by rw [h.len]; omega
  refine ⟨h.size, by rw [setB_length]; exact h.len, smalls_setB h.small _ _, by rw [List.length_set]; exact h.lenb, fun i hi => ?_, fun i hi => ?_, ?_, fun i => ?_⟩
  · rw [bit_setB _ _ _ _ hin] at hi
    by_cases e : i = blkOf kn r
    · rw [e]; exact hlt
    · rw [if_neg e] at hi; exact h.below i hi
  · rw [bit_setB _ _ _ _ hin] at hi
    by_cases e : i = blkOf kn r
    · rw [if_pos e] at hi; cases hi
    · rw [if_neg e] at hi
      rw [getD_set_tx, if_neg (fun h => e h.1)]
      exact h.none i hi
  · rw [upTo_set hin hk, if_pos hlt, h.many]
  · rw [getD_set_tx]
    split
    · exact txtL_size h.short hz
    · exact h.short i
theorem Run.known {k : Int} {rs : List RV} (hs : 0 < sizeOfK k) (hg : Good rs) : ∀ {j : Nat} {kn : List Nat} {bs : List ByteArray}, Run k rs j kn bs → Kn k j kn bs
  | 0, _, _, ⟨h1, h2⟩ => by rw [h1, h2]; exact .start hs
  | j + 1, _, _, ⟨a, b, r, h1, h2, h3, h4⟩ => by
    have hm := hg r (List.mem_of_find?_eq_some h2)
    rw [h3, h4]
    exact (Run.known hs hg h1).step hm.1 hm.2 (List.find?_some h2)
theorem Kn.le {k : Int} {j : Nat} {kn : List Nat} {bs : List ByteArray} (h : Kn k j kn bs) : j ≤ k.toNat := by
  rw [← h.many]; exact upTo_le _ _
theorem Kn.shorts {k : Int} {j : Nat} {kn : List Nat} {bs : List ByteArray} (h : Kn k j kn bs) : shorts bs := by
  intro s hs
  obtain ⟨i, hi, rfl⟩ := List.mem_iff_getElem.1 hs
  have := h.short i
  rw [List.getD_eq_getElem?_getD, List.getElem?_eq_getElem hi] at this
  simp only [Option.getD_some] at this
  omega
end Go.Proofs.YtnjdldbdkafnaaaGreatDoor
