/-
  Contracts of words.Unit, bucketlineref01.Unit: for all ints.
  Which packets may be (CheckP); bools and errors' numbers that tell a proposition. No condition.
  How many of the first k bits of a row are set; the xor of two rows bit by bit. Plain lists of words; no condition.
  Packets as data ('PD'): which may be ('okD'), which are of one object ('alkD'). No condition.
  Plain mathematics of mixing packets: those at the places that are there ('selD'), the packet that they make ('mixD'); it may be, where they may ('mix_ok'). No condition.
  Plain mathematics of places that are named again and again: how often each is ('timesL'), what stands there once or twice ('atTo'), and that the xor, the members and the packet made are those of the places as they are named. No condition.
  Plain lists for draws: the n-th draw of a list ('drawN'), numbers taken one after the other of those that are left ('leftL', 'picksL'), the same rising ('distL'), and what is taken by marks ('untaken', 'marked'). No condition.
-/
import Derived.Test.YtfimbbiholllhaaDoorM3
import Derived.Test.YtfimbbiholllhaaDoorM2
import Derived.Test.YtfimbbiholllhaaDoorM1
import Derived.Test.YtfimbbiholllhaaDoorM4
namespace Go.Proofs.YtfimbbiholllhaaDoor
open Go.RowKit
set_option linter.unusedVariables false
set_option maxRecDepth 4000

/-- The row of one block. -/
def unitL (k i : Int) : List Nat := if i < 0 ∨ k ≤ i then [] else setI (List.replicate (sizeOfK k) 0) i true

theorem own_made {w w' : World} {n : Nat} (h : w'.ownsRow w.heap.size 47 1 (.slice (some ⟨w.heap.size, 0, none⟩) n n) n (madeCells (Value.int .u64 0).cells (n * 1)).toList) :
    Own w' w.heap.size (.slice (some ⟨w.heap.size, 0, none⟩) n n) (List.replicate n 0) := by
  refine ⟨fun x hx => ?_, ?_⟩
  · rw [(List.mem_replicate.1 hx).2]; show 0 < 18446744073709551616; decide
  · have e : cellsU (List.replicate n 0) = (madeCells (Value.int .u64 0).cells (n * 1)).toList := by
      rw [show (Value.int .u64 0).cells = #[Value.int .u64 0] from rfl, toList_madeCells_one]
      simp [cellsU]
    rw [e, List.length_replicate]
    exact h
theorem sizeOfK_le (k : Int) : sizeOfK k ≤ 2 := by
  unfold sizeOfK
  split
  · omega
  · omega


end Go.Proofs.YtfimbbiholllhaaDoor
namespace Go.Proofs.YtfimbbiholllhaaDoor
set_option linter.unusedVariables false
set_option maxRecDepth 4000

/-- A bool that tells P. -/
def TB (b : Bool) (P : Prop) : Prop := b = true ↔ P
theorem tb_ex (P : Prop) : ∃ b, TB b P := by
  by_cases h : P
  · exact ⟨true, by simp [TB, h]⟩
  · exact ⟨false, by simp [TB, h]⟩
theorem TB.no {b : Bool} {P : Prop} (h : TB b P) (hp : ¬ P) : b = false := by
  cases b
  · rfl
  · exact absurd (h.1 rfl) hp
theorem TB.yes {b : Bool} {P : Prop} (h : TB b P) (hp : P) : b = true := h.2 hp
/-- The error's number of what may be, or not. -/
def CkP (en : Nat) (P : Prop) : Prop := (P ∧ en = 0) ∨ (¬ P ∧ en = 1)
theorem ck_ex (P : Prop) : ∃ en, CkP en P := by
  by_cases h : P
  · exact ⟨0, .inl ⟨h, rfl⟩⟩
  · exact ⟨1, .inr ⟨h, rfl⟩⟩
theorem CkP.yes {en : Nat} {P : Prop} (h : CkP en P) (hp : P) : en = 0 := by
  rcases h with ⟨_, h⟩ | ⟨h, _⟩
  · exact h
  · exact absurd hp h
theorem CkP.no {en : Nat} {P : Prop} (h : CkP en P) (hp : ¬ P) : en = 1 := by
  rcases h with ⟨h, _⟩ | ⟨_, h⟩
  · exact absurd h hp
  · exact h

def shapedP (k z : Int) : Prop := (1 ≤ k ∧ k ≤ 128) ∧ 1 ≤ z ∧ z ≤ 64
def boundP (o l k z h : Int) : Prop := shapedP k z ∧ (0 ≤ o ∧ o ≤ 4294967295) ∧ (0 ≤ l ∧ l ≤ k * z) ∧ 0 ≤ h ∧ h ≤ 15
def rowedP (k z : Int) (xs : List Nat) (n : Nat) : Prop := ValidP k xs ∧ 0 < cnt xs ∧ (n : Int) = z
/-- A packet that may be: n is how many bytes its text has. -/
def CheckP (o l k z h : Int) (xs : List Nat) (n : Nat) : Prop := boundP o l k z h ∧ rowedP k z xs n
theorem mul_le {k z : Int} (h : shapedP k z) : 0 ≤ k * z ∧ k * z ≤ 8192 := by
  obtain ⟨⟨h1, h2⟩, h3, h4⟩ := h
  have e1 : 0 ≤ k * z := Int.mul_nonneg (by omega) (by omega)
  have e2 : k * z ≤ 128 * z := Int.mul_le_mul_of_nonneg_right h2 (by omega)
  omega

end Go.Proofs.YtfimbbiholllhaaDoor
namespace Go.Proofs.YtfimbbiholllhaaDoor

/-- How many of the first k bits are set. -/
def upTo (vs : List Nat) : Nat → Nat
  | 0 => 0
  | k + 1 => upTo vs k + if getB vs k then 1 else 0
theorem upTo_le (vs : List Nat) : ∀ k, upTo vs k ≤ k
  | 0 => Nat.le_refl _
  | k + 1 => by
    have := upTo_le vs k
    unfold upTo
    split <;> omega
theorem upTo_mono (vs : List Nat) (n : Nat) : ∀ d, upTo vs n ≤ upTo vs (n + d)
  | 0 => Nat.le_refl _
  | d + 1 => by
    have := upTo_mono vs n d
    show _ ≤ upTo vs (n + d) + _
    omega
theorem upTo_same (vs : List Nat) (n : Nat) (h : ∀ i, n ≤ i → getB vs i = false) : ∀ d, upTo vs (n + d) = upTo vs n
  | 0 => rfl
  | d + 1 => by
    show upTo vs (n + d) + (if getB vs (n + d) then 1 else 0) = _
    rw [upTo_same vs n h d, h (n + d) (by omega)]
    simp
theorem upTo_more (vs : List Nat) (n d i : Nat) (h1 : n ≤ i) (h2 : i < n + d) (hg : getB vs i = true) : upTo vs n < upTo vs (n + d) := by
  have a := upTo_mono vs n (i - n)
  have b := upTo_mono vs (i + 1) (n + d - (i + 1))
  rw [show n + (i - n) = i from by omega] at a
  rw [show i + 1 + (n + d - (i + 1)) = n + d from by omega] at b
  have c : upTo vs (i + 1) = upTo vs i + 1 := by simp [upTo, hg]
  omega
/-- The bits of one word. -/
def tbs (x : Nat) : Nat → Nat
  | 0 => 0
  | f + 1 => tbs x f + if x.testBit f then 1 else 0
theorem tbs_low (x : Nat) : ∀ f, tbs x (f + 1) = x % 2 + tbs (x / 2) f
  | 0 => by
    have : x.testBit 0 = decide (x % 2 = 1) := Nat.testBit_zero x
    simp only [tbs, this]
    by_cases h : x % 2 = 1
    · simp [h]
    · simp [h]; omega
  | f + 1 => by
    have e : x.testBit (f + 1) = (x / 2).testBit f := by rw [Nat.testBit_succ]
    show tbs x (f + 1) + (if x.testBit (f + 1) then 1 else 0) = x % 2 + (tbs (x / 2) f + if (x / 2).testBit f then 1 else 0)
    rw [tbs_low x f, e]
    omega
theorem popF_tbs : ∀ f x, popF f x = tbs x f
  | 0, x => rfl
  | f + 1, x => by
    rw [tbs_low, ← popF_tbs f (x / 2)]
    rfl
theorem getB_cons_lt (x : Nat) (xs : List Nat) (i : Nat) (h : i < 64) : getB (x :: xs) i = x.testBit i := by
  unfold getB
  rw [show i / 64 = 0 from by omega, show i % 64 = i from by omega]
  rfl
theorem getB_cons_ge (x : Nat) (xs : List Nat) (i : Nat) : getB (x :: xs) (64 + i) = getB xs i := by
  unfold getB
  rw [show (64 + i) / 64 = i / 64 + 1 from by omega, show (64 + i) % 64 = i % 64 from by omega]
  rfl
theorem upTo_head (x : Nat) (xs : List Nat) : ∀ f, f ≤ 64 → upTo (x :: xs) f = tbs x f
  | 0, _ => rfl
  | f + 1, h => by
    show upTo (x :: xs) f + _ = tbs x f + _
    rw [upTo_head x xs f (by omega), getB_cons_lt x xs f (by omega)]
theorem upTo_tail (x : Nat) (xs : List Nat) : ∀ k, upTo (x :: xs) (64 + k) = pop x + upTo xs k
  | 0 => by rw [Nat.add_zero, upTo_head x xs 64 (Nat.le_refl _)]; unfold pop; rw [popF_tbs]; rfl
  | k + 1 => by
    show upTo (x :: xs) (64 + k) + (if getB (x :: xs) (64 + k) then 1 else 0) = pop x + (upTo xs k + if getB xs k then 1 else 0)
    rw [upTo_tail x xs k, getB_cons_ge]
    omega
theorem cnt_upTo : ∀ xs, cnt xs = upTo xs (64 * xs.length)
  | [] => rfl
  | x :: xs => by
    rw [cnt_cons, List.length_cons, show 64 * (xs.length + 1) = 64 + 64 * xs.length from by omega, upTo_tail, cnt_upTo xs]
/-- All bits are among the first n just if no bit is set from n on. -/
theorem upTo_cnt (vs : List Nat) (n : Nat) : upTo vs n = cnt vs ↔ ∀ i, n ≤ i → getB vs i = false := by
  rw [cnt_upTo]
  constructor
  · intro h i hi
    by_cases hl : i < 64 * vs.length
    · cases hg : getB vs i with
      | false => rfl
      | true =>
        have := upTo_more vs n (64 * vs.length - n) i hi (by omega) hg
        rw [show n + (64 * vs.length - n) = 64 * vs.length from by omega] at this
        omega
    · exact getB_out vs i (by omega)
  · intro h
    by_cases hl : n ≤ 64 * vs.length
    · have := upTo_same vs n h (64 * vs.length - n)
      rw [show n + (64 * vs.length - n) = 64 * vs.length from by omega] at this
      omega
    · have := upTo_same vs (64 * vs.length) (fun i hi => getB_out vs i hi) (n - 64 * vs.length)
      rw [show 64 * vs.length + (n - 64 * vs.length) = n from by omega] at this
      omega
theorem getB_xorL (a b : List Nat) (i : Nat) : getB (xorL a b) i = (getB a i ^^ getB b i) := by
  unfold getB
  rw [xorL_getD, Nat.testBit_xor]
theorem getB_nil (i : Nat) : getB [] i = false := getB_out [] i (by simp)
end Go.Proofs.YtfimbbiholllhaaDoor
namespace Go.Proofs.YtfimbbiholllhaaDoor
open Go.RowKit Go.Sort
set_option linter.unusedVariables false
set_option maxRecDepth 4000

/-- A packet as data. -/
structure PD where
  o : Int
  l : Int
  k : Int
  z : Int
  h : Int
  xs : List Nat
  s : ByteArray
/-- What stands behind the end of a list of packets. -/
def PD.dflt : PD := ⟨0, 0, 0, 0, 0, [], ⟨#[]⟩⟩
def PKV.pd (p : PKV) : PD := ⟨p.o, p.l, p.k, p.z, p.h, p.r.xs, p.r.s⟩
/-- May it be? -/
def okD (p : PD) : Bool := decide (((1 ≤ p.k ∧ p.k ≤ 128) ∧ 1 ≤ p.z ∧ p.z ≤ 64) ∧ (0 ≤ p.o ∧ p.o ≤ 4294967295) ∧ (0 ≤ p.l ∧ p.l ≤ p.k * p.z) ∧ 0 ≤ p.h ∧ p.h ≤ 15) && (validB p.k p.xs && decide (0 < cnt p.xs) && decide ((p.s.size : Int) = p.z))
theorem okD_iff {p : PD} : okD p = true ↔ CheckP p.o p.l p.k p.z p.h p.xs p.s.size := by
  unfold okD CheckP
  rw [Bool.and_eq_true, Bool.and_eq_true, Bool.and_eq_true, validB_iff, decide_eq_true_eq, decide_eq_true_eq, decide_eq_true_eq]
  unfold boundP shapedP rowedP
  rw [and_assoc (a := ValidP p.k p.xs)]
theorem okD_ck (p : PD) : CkP (if okD p = true then 0 else 1) (CheckP p.o p.l p.k p.z p.h p.xs p.s.size) := by
  by_cases h : okD p = true
  · rw [if_pos h]; exact .inl ⟨okD_iff.1 h, rfl⟩
  · rw [if_neg h]; exact .inr ⟨fun hc => h (okD_iff.2 hc), rfl⟩
theorem okD_valid {p : PD} (h : okD p = true) : ValidP p.k p.xs ∧ 0 < cnt p.xs ∧ (p.s.size : Int) = p.z ∧ 1 ≤ p.k ∧ p.k ≤ 128 ∧ p.z ≤ 64 := by
  obtain ⟨⟨⟨h1, h2⟩, _⟩, h3, h4, h5⟩ := okD_iff.1 h
  exact ⟨h3, h4, h5, h1.1, h1.2, h2.2⟩
theorem okD_len {p : PD} (h : okD p = true) : p.xs.length ≤ 2 := by
  obtain ⟨⟨h1, h2, _⟩, _⟩ := okD_valid h
  have := sizeOfK_le p.k
  omega
theorem okD_cnt {p : PD} (h : okD p = true) : (cnt p.xs : Int) ≤ p.k := by
  obtain ⟨⟨_, _, h3⟩, _, _, hk, _⟩ := okD_valid h
  have h1 := (upTo_cnt p.xs p.k.toNat).2 h3
  have h2 := upTo_le p.xs p.k.toNat
  omega
def vecsD (L : List PD) : List (List Nat) := L.map fun p => p.xs
theorem vecsD_len (L : List PD) : (vecsD L).length = L.length := by simp [vecsD]
/-- Are they of the same object? -/
def alkD (q p : PD) : Bool := decide (q.o = p.o ∧ q.l = p.l ∧ q.k = p.k ∧ q.z = p.z)
theorem alk_symm {p q : PD} (h : alkD p q = true) : alkD q p = true := by
  unfold alkD at *
  rw [decide_eq_true_eq] at *
  exact ⟨h.1.symm, h.2.1.symm, h.2.2.1.symm, h.2.2.2.symm⟩
theorem alk_trans {p q r : PD} (h : alkD p q = true) (k : alkD q r = true) : alkD p r = true := by
  unfold alkD at *
  rw [decide_eq_true_eq] at *
  exact ⟨h.1.trans k.1, h.2.1.trans k.2.1, h.2.2.1.trans k.2.2.1, h.2.2.2.trans k.2.2.2⟩
theorem alk_refl (p : PD) : alkD p p = true := by unfold alkD; rw [decide_eq_true_eq]; exact ⟨rfl, rfl, rfl, rfl⟩
theorem ckD_no {p : PKV} (h : okD p.pd = false) : CkP 1 (CheckP p.o p.l p.k p.z p.h p.r.xs p.r.s.size) := by
  have := okD_ck p.pd
  rw [h] at this
  exact this
theorem ckD_yes {p : PKV} (h : okD p.pd = true) : CkP 0 (CheckP p.o p.l p.k p.z p.h p.r.xs p.r.s.size) := by
  have := okD_ck p.pd
  rw [h] at this
  exact this
theorem pdGet {ps : List PKV} {i : Nat} (hi : i < ps.length) : (ps.map PKV.pd).getD i .dflt = (ps.getD i .dflt).pd := by
  rw [List.getD_eq_getElem?_getD, List.getElem?_map, List.getElem?_eq_getElem hi, List.getD_eq_getElem?_getD, List.getElem?_eq_getElem hi]
  rfl
end Go.Proofs.YtfimbbiholllhaaDoor
namespace Go.Proofs.YtfimbbiholllhaaDoor
open Go.RowKit
set_option linter.unusedVariables false
set_option maxRecDepth 4000

/-- Those at the places that are there. -/
def selD (L : List PD) (ws : List Int) : List PD := ws.filterMap fun (i : Int) => if 0 ≤ i ∧ i < (L.length : Int) then some (L.getD i.toNat .dflt) else none
theorem sel_snoc (L : List PD) (ws : List Int) (i : Int) : selD L (ws ++ [i]) = if 0 ≤ i ∧ i < (L.length : Int) then selD L ws ++ [L.getD i.toNat .dflt] else selD L ws := by
  unfold selD
  rw [List.filterMap_append]
  by_cases h : 0 ≤ i ∧ i < (L.length : Int)
  · rw [if_pos h, List.filterMap_cons, List.filterMap_nil, if_pos h]
  · rw [if_neg h, List.filterMap_cons, List.filterMap_nil, if_neg h]
    exact List.append_nil _
theorem sel_mem {L : List PD} {ws : List Int} {p : PD} (h : p ∈ selD L ws) : p ∈ L := by
  obtain ⟨i, _, hi⟩ := List.mem_filterMap.1 h
  split at hi
  · rename_i hc
    rw [← Option.some.inj hi, List.getD_eq_getElem?_getD, List.getElem?_eq_getElem (show i.toNat < L.length by omega)]
    exact List.getElem_mem _
  · cases hi
/-- The xor of their rows, of their texts; the greatest of their hops. -/
def vecX (Q : List PD) : List Nat := Q.foldl (fun a p => xorL a p.xs) []
def txtX (Q : List PD) : List Nat := Q.foldl (fun a p => xorL a (tx p.s)) []
def hopX : List PD → Int
  | [] => 0
  | p :: Q => Q.foldl (fun a q => max a q.h) p.h
/-- The packet that they make. -/
def mixL : List PD → Option PD
  | [] => none
  | q :: Q => if (∀ p ∈ Q, alkD q p = true) ∧ 0 < cnt (vecX (q :: Q)) ∧ hopX (q :: Q) < 15 then some ⟨q.o, q.l, q.k, q.z, IntKind.i64.wrap (hopX (q :: Q) + 1), vecX (q :: Q), st (txtX (q :: Q))⟩ else none
def mixD (L : List PD) (ws : List Int) : Option PD := mixL (selD L ws)
theorem mixL_cons (q : PD) (Q : List PD) : mixL (q :: Q) = if (∀ p ∈ Q, alkD q p = true) ∧ 0 < cnt (vecX (q :: Q)) ∧ hopX (q :: Q) < 15 then some ⟨q.o, q.l, q.k, q.z, IntKind.i64.wrap (hopX (q :: Q) + 1), vecX (q :: Q), st (txtX (q :: Q))⟩ else none := rfl
theorem hop_fold : ∀ (Q : List PD) (a : Int), a ≤ Q.foldl (fun a q => max a q.h) a ∧ (∀ p ∈ Q, p.h ≤ Q.foldl (fun a q => max a q.h) a) ∧ ∀ b, a ≤ b → (∀ p ∈ Q, p.h ≤ b) → Q.foldl (fun a q => max a q.h) a ≤ b
  | [], a => ⟨Int.le_refl _, (fun p hp => by cases hp), fun b h _ => h⟩
  | q :: Q, a => by
    obtain ⟨h1, h2, h3⟩ := hop_fold Q (max a q.h)
    rw [List.foldl_cons]
    refine ⟨by omega, fun p hp => ?_, fun b hb hp => h3 b (by have := hp q List.mem_cons_self; omega) fun p hq => hp p (List.mem_cons_of_mem _ hq)⟩
    rcases List.mem_cons.1 hp with e | e
    · rw [e]; omega
    · exact h2 p e
theorem hop_le {q : PD} {Q : List PD} {b : Int} (h : ∀ p ∈ q :: Q, p.h ≤ b) : hopX (q :: Q) ≤ b := (hop_fold Q q.h).2.2 b (h q List.mem_cons_self) fun p hp => h p (List.mem_cons_of_mem _ hp)
theorem hop_ge {q : PD} {Q : List PD} {p : PD} (h : p ∈ q :: Q) : p.h ≤ hopX (q :: Q) := by
  rcases List.mem_cons.1 h with e | e
  · rw [e]; exact (hop_fold Q q.h).1
  · exact (hop_fold Q q.h).2.1 p e
theorem valid_xor {k : Int} {a b : List Nat} (ha : ValidP k a) (hb : ValidP k b) : ValidP k (xorL a b) := by
  obtain ⟨a1, a2, a3⟩ := ha
  obtain ⟨b1, b2, b3⟩ := hb
  refine ⟨by rw [xorL_length]; omega, by rw [xorL_length]; omega, fun i hi => ?_⟩
  rw [getB_xorL, a3 i hi, b3 i hi, Bool.xor_false]
theorem vec_valid {k : Int} : ∀ (Q : List PD) (a : List Nat), ValidP k a → (∀ p ∈ Q, ValidP k p.xs) → ValidP k (Q.foldl (fun a p => xorL a p.xs) a)
  | [], a, ha, _ => ha
  | q :: Q, a, ha, h => by
    rw [List.foldl_cons]
    exact vec_valid Q _ (valid_xor ha (h q List.mem_cons_self)) fun p hp => h p (List.mem_cons_of_mem _ hp)
theorem txt_len {m : Nat} : ∀ (Q : List PD) (a : List Nat), a.length = m → (∀ p ∈ Q, p.s.size = m) → (Q.foldl (fun a p => xorL a (tx p.s)) a).length = m
  | [], a, ha, _ => ha
  | q :: Q, a, ha, h => by
    rw [List.foldl_cons]
    refine txt_len Q _ ?_ fun p hp => h p (List.mem_cons_of_mem _ hp)
    rw [xorL_length, tx_length, ha, h q List.mem_cons_self, Nat.max_self]
theorem xorL_nil' (a : List Nat) : xorL [] a = a := by rw [xorL_comm, xorL_nil]
/-- Packets that may be, and are alike, make one that may be, one relay further than the furthest. -/
theorem mix_ok {q : PD} {Q : List PD} {r : PD} (hok : ∀ p ∈ q :: Q, okD p = true) (h : mixL (q :: Q) = some r) : okD r = true ∧ r.h = hopX (q :: Q) + 1 := by
  rw [mixL_cons] at h
  by_cases hc : (∀ p ∈ Q, alkD q p = true) ∧ 0 < cnt (vecX (q :: Q)) ∧ hopX (q :: Q) < 15
  · rw [if_pos hc] at h
    obtain ⟨h1, h2, h3⟩ := hc
    obtain rfl := Option.some.inj h
    have hq := okD_iff.1 (hok q List.mem_cons_self)
    obtain ⟨⟨hs, ho, hl, hh⟩, hv, hcn, hz⟩ := hq
    have hg := hop_ge (q := q) (Q := Q) (p := q) List.mem_cons_self
    have hwr : IntKind.i64.wrap (hopX (q :: Q) + 1) = hopX (q :: Q) + 1 := by rw [IntKind.wrap_i64]; omega
    refine ⟨okD_iff.2 ⟨⟨hs, ho, hl, ?_, ?_⟩, ?_, h2, ?_⟩, hwr⟩
    · show 0 ≤ IntKind.i64.wrap (hopX (q :: Q) + 1)
      omega
    · show IntKind.i64.wrap (hopX (q :: Q) + 1) ≤ 15
      omega
    · show ValidP q.k (vecX (q :: Q))
      unfold vecX
      rw [List.foldl_cons, xorL_nil']
      refine vec_valid Q _ hv fun p hp => ?_
      have h4 := (okD_valid (hok p (List.mem_cons_of_mem _ hp))).1
      have h5 := h1 p hp
      unfold alkD at h5
      rw [decide_eq_true_eq] at h5
      rw [h5.2.2.1]
      exact h4
    · show ((st (txtX (q :: Q))).size : Int) = q.z
      unfold txtX
      rw [st_len, List.foldl_cons, xorL_nil', txt_len (m := q.s.size) Q _ (tx_length _) fun p hp => ?_]
      · exact hz
      · have h4 := (okD_valid (hok p (List.mem_cons_of_mem _ hp))).2.2.1
        have h5 := h1 p hp
        unfold alkD at h5
        rw [decide_eq_true_eq] at h5
        have h6 := h5.2.2.2
        have h7 : (p.s.size : Int) = (q.s.size : Int) := by rw [h4, ← h6, ← hz]
        omega
  · rw [if_neg hc] at h; cases h
end Go.Proofs.YtfimbbiholllhaaDoor
namespace Go.Proofs.YtfimbbiholllhaaDoor
open Go.RowKit
set_option linter.unusedVariables false
set_option maxRecDepth 4000

/-- How often each of n places is named. -/
def timesL (n : Nat) (ws : List Int) : List Nat := ws.foldl (fun c i => if 0 ≤ i ∧ i < (n : Int) then c.set i.toNat (c.getD i.toNat 0 + 1) else c) (List.replicate n 0)
theorem times_nil (n : Nat) : timesL n [] = List.replicate n 0 := rfl
theorem times_snoc (n : Nat) (ws : List Int) (i : Int) : timesL n (ws ++ [i]) = if 0 ≤ i ∧ i < (n : Int) then (timesL n ws).set i.toNat ((timesL n ws).getD i.toNat 0 + 1) else timesL n ws := by
  unfold timesL
  rw [List.foldl_append]
  rfl
theorem snoc_ind {α : Type} {P : List α → Prop} (h0 : P []) (h1 : ∀ l a, P l → P (l ++ [a])) : ∀ l, P l := fun l => by
  have : ∀ k, k ≤ l.length → P (l.take k) := fun k => by
    induction k with
    | zero => intro _; rw [List.take_zero]; exact h0
    | succ k ih => intro hk; rw [List.take_succ_eq_append_getElem (by omega)]; exact h1 _ _ (ih (by omega))
  have h2 := this l.length (Nat.le_refl _)
  rwa [List.take_length] at h2
theorem times_len (n : Nat) (ws : List Int) : (timesL n ws).length = n := by
  refine snoc_ind (P := fun ws => (timesL n ws).length = n) (by rw [times_nil, List.length_replicate]) (fun l i ih => ?_) ws
  rw [times_snoc]
  split
  · rw [List.length_set, ih]
  · exact ih
theorem times_le (n : Nat) (ws : List Int) : ∀ b, (timesL n ws).getD b 0 ≤ ws.length := by
  refine snoc_ind (P := fun ws => ∀ b, (timesL n ws).getD b 0 ≤ ws.length) (fun b => ?_) (fun l i ih b => ?_) ws
  · rw [times_nil, List.getD_eq_getElem?_getD, List.getElem?_replicate]
    split <;> simp
  · rw [times_snoc, List.length_append, List.length_singleton]
    split
    · rw [getD_set]
      have := ih b
      have := ih i.toNat
      split <;> omega
    · have := ih b
      omega
/-- What stands at the first k places: none, once or twice. -/
def atTo {α : Type} (dd : α) (l : List α) (c : List Nat) : Nat → List α
  | 0 => []
  | k + 1 => if c.getD k 0 = 0 then atTo dd l c k else if c.getD k 0 % 2 = 0 then atTo dd l c k ++ [l.getD k dd] ++ [l.getD k dd] else atTo dd l c k ++ [l.getD k dd]
theorem atTo_no {α : Type} {dd : α} {l : List α} {c : List Nat} {k : Nat} (h : c.getD k 0 = 0) : atTo dd l c (k + 1) = atTo dd l c k := if_pos h
theorem atTo_even {α : Type} {dd : α} {l : List α} {c : List Nat} {k : Nat} (h : c.getD k 0 ≠ 0) (h2 : c.getD k 0 % 2 = 0) : atTo dd l c (k + 1) = atTo dd l c k ++ [l.getD k dd] ++ [l.getD k dd] := (if_neg h).trans (if_pos h2)
theorem atTo_odd {α : Type} {dd : α} {l : List α} {c : List Nat} {k : Nat} (h : c.getD k 0 ≠ 0) (h2 : ¬ c.getD k 0 % 2 = 0) : atTo dd l c (k + 1) = atTo dd l c k ++ [l.getD k dd] := (if_neg h).trans (if_neg h2)
theorem atTo_low {α : Type} {dd : α} {l : List α} {c : List Nat} {b x : Nat} : ∀ n, n ≤ b → atTo dd l (c.set b x) n = atTo dd l c n
  | 0, _ => rfl
  | n + 1, h => by
    have e : (c.set b x).getD n 0 = c.getD n 0 := by rw [getD_set, if_neg (by omega)]
    show (if _ then _ else _) = (if _ then _ else _)
    rw [e, atTo_low n (by omega)]
/-- The xor over a list. -/
def xFold {α : Type} (g : α → List Nat) (Q : List α) : List Nat := Q.foldl (fun a p => xorL a (g p)) []
theorem xFold_snoc {α : Type} (g : α → List Nat) (Q : List α) (p : α) : xFold g (Q ++ [p]) = xorL (xFold g Q) (g p) := by
  unfold xFold
  rw [List.foldl_append]
  rfl
theorem xorL_three (a b : List Nat) : xorL (xorL (xorL a b) b) b = xorL a b := by
  apply ext_getD
  · simp only [xorL_length]; omega
  · intro i _
    simp only [xorL_getD]
    rw [Nat.xor_assoc, Nat.xor_self, Nat.xor_zero]
theorem xorL_swap3 (a b c : List Nat) : xorL (xorL a b) c = xorL (xorL a c) b := by
  apply ext_getD
  · simp only [xorL_length]; omega
  · intro i _
    simp only [xorL_getD]
    rw [Nat.xor_assoc, Nat.xor_comm (b.getD i 0), ← Nat.xor_assoc]
theorem at_set {c : List Nat} {b x : Nat} (h : b < c.length) : (c.set b x).getD b 0 = x := by rw [getD_set, if_pos ⟨rfl, h⟩]
theorem at_ne {c : List Nat} {b x i : Nat} (h : i ≠ b) : (c.set b x).getD i 0 = c.getD i 0 := by rw [getD_set, if_neg (fun e => h e.1)]
/-- Once more at one place. -/
theorem xFold_more {α : Type} {dd : α} (g : α → List Nat) {l : List α} {c : List Nat} {b : Nat} (hb : b < c.length) : ∀ n, b < n → xFold g (atTo dd l (c.set b (c.getD b 0 + 1)) n) = xorL (xFold g (atTo dd l c n)) (g (l.getD b dd))
  | 0, h => by omega
  | n + 1, h => by
    by_cases e : n = b
    · subst e
      have e1 : (c.set n (c.getD n 0 + 1)).getD n 0 = c.getD n 0 + 1 := at_set hb
      have e2 : atTo dd l (c.set n (c.getD n 0 + 1)) n = atTo dd l c n := atTo_low n (Nat.le_refl _)
      by_cases z : c.getD n 0 = 0
      · rw [atTo_odd (by omega) (by omega), atTo_no z, e2, xFold_snoc]
      · by_cases z2 : c.getD n 0 % 2 = 0
        · rw [atTo_odd (by omega) (by omega), atTo_even z z2, e2, xFold_snoc, xFold_snoc, xFold_snoc, xorL_three]
        · rw [atTo_even (by omega) (by omega), atTo_odd z z2, e2, xFold_snoc, xFold_snoc]
    · have ih := xFold_more (dd := dd) g (l := l) hb n (by omega)
      have e1 : (c.set b (c.getD b 0 + 1)).getD n 0 = c.getD n 0 := at_ne e
      by_cases z : c.getD n 0 = 0
      · rw [atTo_no (by omega), atTo_no z, ih]
      · by_cases z2 : c.getD n 0 % 2 = 0
        · rw [atTo_even (by omega) (by omega), atTo_even z z2, xFold_snoc, xFold_snoc, xFold_snoc, xFold_snoc, ih, xorL_swap3 _ (g (l.getD b dd)), xorL_swap3 _ (g (l.getD b dd))]
        · rw [atTo_odd (by omega) (by omega), atTo_odd z z2, xFold_snoc, xFold_snoc, ih, xorL_swap3]
theorem len_more {α : Type} {dd : α} {l : List α} {c : List Nat} {b : Nat} (hb : b < c.length) : ∀ n, (atTo dd l (c.set b (c.getD b 0 + 1)) n).length ≤ (atTo dd l c n).length + (if b < n then 1 else 0)
  | 0 => Nat.zero_le _
  | n + 1 => by
    have ih := len_more (dd := dd) (l := l) hb n
    by_cases e : n = b
    · subst e
      have e1 : (c.set n (c.getD n 0 + 1)).getD n 0 = c.getD n 0 + 1 := at_set hb
      have e2 : atTo dd l (c.set n (c.getD n 0 + 1)) n = atTo dd l c n := atTo_low n (Nat.le_refl _)
      rw [if_pos (by omega)]
      by_cases z : c.getD n 0 = 0
      · rw [atTo_odd (by omega) (by omega), atTo_no z, e2, List.length_append, List.length_singleton]
        exact Nat.le_refl _
      · by_cases z2 : c.getD n 0 % 2 = 0
        · rw [atTo_odd (by omega) (by omega), atTo_even z z2, e2]
          simp only [List.length_append, List.length_singleton]
          omega
        · rw [atTo_even (by omega) (by omega), atTo_odd z z2, e2]
          simp only [List.length_append, List.length_singleton]
          omega
    · have e1 : (c.set b (c.getD b 0 + 1)).getD n 0 = c.getD n 0 := at_ne e
      rw [show (if b < n + 1 then 1 else 0) = (if b < n then 1 else 0) by split <;> split <;> omega]
      by_cases z : c.getD n 0 = 0
      · rw [atTo_no (by omega), atTo_no z]; exact ih
      · by_cases z2 : c.getD n 0 % 2 = 0
        · rw [atTo_even (by omega) (by omega), atTo_even z z2]
          simp only [List.length_append, List.length_singleton]
          omega
        · rw [atTo_odd (by omega) (by omega), atTo_odd z z2]
          simp only [List.length_append, List.length_singleton]
          omega
theorem at_mem {α : Type} {dd : α} {l : List α} {c : List Nat} {p : α} : ∀ n, p ∈ atTo dd l c n ↔ ∃ i, i < n ∧ c.getD i 0 ≠ 0 ∧ p = l.getD i dd
  | 0 => by
    constructor
    · intro h; cases h
    · rintro ⟨i, h, _⟩; omega
  | n + 1 => by
    have ih := at_mem (dd := dd) (l := l) (c := c) (p := p) n
    have key : (∃ i, i < n + 1 ∧ c.getD i 0 ≠ 0 ∧ p = l.getD i dd) ↔ (∃ i, i < n ∧ c.getD i 0 ≠ 0 ∧ p = l.getD i dd) ∨ (c.getD n 0 ≠ 0 ∧ p = l.getD n dd) := by
      constructor
      · rintro ⟨i, h1, h2, h3⟩
        rcases Nat.lt_or_ge i n with e | e
        · exact .inl ⟨i, e, h2, h3⟩
        · obtain rfl : i = n := by omega
          exact .inr ⟨h2, h3⟩
      · rintro (⟨i, h1, h2, h3⟩ | ⟨h2, h3⟩)
        · exact ⟨i, by omega, h2, h3⟩
        · exact ⟨n, by omega, h2, h3⟩
    rw [key, ← ih]
    by_cases z : c.getD n 0 = 0
    · rw [atTo_no z]
      exact ⟨.inl, fun h => h.elim id fun h => absurd z h.1⟩
    · by_cases z2 : c.getD n 0 % 2 = 0
      · rw [atTo_even z z2, List.mem_append, List.mem_append, List.mem_singleton]
        constructor
        · rintro ((h | h) | h)
          · exact .inl h
          · exact .inr ⟨z, h⟩
          · exact .inr ⟨z, h⟩
        · rintro (h | h)
          · exact .inl (.inl h)
          · exact .inr h.2
      · rw [atTo_odd z z2, List.mem_append, List.mem_singleton]
        constructor
        · rintro (h | h)
          · exact .inl h
          · exact .inr ⟨z, h⟩
        · rintro (h | h)
          · exact .inl h
          · exact .inr h.2
theorem at_take {α : Type} {dd : α} {l : List α} {c : List Nat} {n : Nat} (hn : n ≤ l.length) {p : α} (h : p ∈ atTo dd l c n) : p ∈ l := by
  obtain ⟨i, h1, _, rfl⟩ := (at_mem n).1 h
  rw [List.getD_eq_getElem?_getD, List.getElem?_eq_getElem (show i < l.length by omega)]
  exact List.getElem_mem _
/-- Those at the places that are there. -/
def selL {α : Type} (dd : α) (l : List α) (ws : List Int) : List α := ws.filterMap fun (i : Int) => if 0 ≤ i ∧ i < (l.length : Int) then some (l.getD i.toNat dd) else none
theorem selL_snoc {α : Type} {dd : α} (l : List α) (ws : List Int) (i : Int) : selL dd l (ws ++ [i]) = if 0 ≤ i ∧ i < (l.length : Int) then selL dd l ws ++ [l.getD i.toNat dd] else selL dd l ws := by
  unfold selL
  rw [List.filterMap_append]
  by_cases h : 0 ≤ i ∧ i < (l.length : Int)
  · rw [if_pos h, List.filterMap_cons, List.filterMap_nil, if_pos h]
  · rw [if_neg h, List.filterMap_cons, List.filterMap_nil, if_neg h]
    exact List.append_nil _
theorem selL_len {α : Type} {dd : α} (l : List α) (ws : List Int) : (selL dd l ws).length ≤ ws.length := List.length_filterMap_le _ _
theorem selL_mem {α : Type} {dd : α} {l : List α} {ws : List Int} {p : α} (h : p ∈ selL dd l ws) : p ∈ l := by
  obtain ⟨i, _, hi⟩ := List.mem_filterMap.1 h
  split at hi
  · rename_i hc
    rw [← Option.some.inj hi, List.getD_eq_getElem?_getD, List.getElem?_eq_getElem (show i.toNat < l.length by omega)]
    exact List.getElem_mem _
  · cases hi
theorem selL_map {α β : Type} {dd : α} (f : α → β) (l : List α) (ws : List Int) : (selL dd l ws).map f = selL (f dd) (l.map f) ws := by
  refine snoc_ind (P := fun ws => (selL dd l ws).map f = selL (f dd) (l.map f) ws) rfl (fun ws i ih => ?_) ws
  rw [selL_snoc, selL_snoc, List.length_map]
  by_cases h : 0 ≤ i ∧ i < (l.length : Int)
  · rw [if_pos h, if_pos h, List.map_append, ih]
    have e : i.toNat < l.length := by omega
    rw [List.map_singleton, List.getD_eq_getElem?_getD, List.getElem?_eq_getElem e, List.getD_eq_getElem?_getD, List.getElem?_map, List.getElem?_eq_getElem e]
    rfl
  · rw [if_neg h, if_neg h, ih]
/-- Once or twice is as often as they are named. -/
def atL {α : Type} (dd : α) (l : List α) (ws : List Int) : List α := atTo dd l (timesL l.length ws) l.length
theorem atL_none {α : Type} {dd : α} (l : List α) : ∀ n, atTo dd l (List.replicate l.length 0) n = []
  | 0 => rfl
  | n + 1 => by
    rw [atTo_no, atL_none l n]
    rw [List.getD_eq_getElem?_getD, List.getElem?_replicate]
    split <;> rfl
theorem atL_xor {α : Type} {dd : α} (g : α → List Nat) (l : List α) (ws : List Int) : xFold g (atL dd l ws) = xFold g (selL dd l ws) := by
  refine snoc_ind (P := fun ws => xFold g (atL dd l ws) = xFold g (selL dd l ws)) ?_ (fun ws i ih => ?_) ws
  · unfold atL; rw [times_nil, atL_none]; rfl
  · unfold atL
    rw [times_snoc, selL_snoc]
    by_cases h : 0 ≤ i ∧ i < (l.length : Int)
    · rw [if_pos h, if_pos h, xFold_more g (by rw [times_len]; omega) _ (by omega), xFold_snoc, ← ih]
      rfl
    · rw [if_neg h, if_neg h, ← ih]
      rfl
theorem atL_len {α : Type} {dd : α} (l : List α) (ws : List Int) : (atL dd l ws).length ≤ ws.length := by
  refine snoc_ind (P := fun ws => (atL dd l ws).length ≤ ws.length) ?_ (fun ws i ih => ?_) ws
  · unfold atL; rw [times_nil, atL_none]; exact Nat.le_refl _
  · unfold atL
    rw [times_snoc, List.length_append, List.length_singleton]
    by_cases h : 0 ≤ i ∧ i < (l.length : Int)
    · rw [if_pos h]
      have h1 := len_more (dd := dd) (l := l) (c := timesL l.length ws) (b := i.toNat) (by rw [times_len]; omega) l.length
      rw [if_pos (by omega)] at h1
      unfold atL at ih
      omega
    · rw [if_neg h]
      unfold atL at ih
      omega
theorem atL_mem {α : Type} {dd : α} {l : List α} {ws : List Int} {p : α} : p ∈ atL dd l ws ↔ p ∈ selL dd l ws := by
  refine snoc_ind (P := fun ws => p ∈ atL dd l ws ↔ p ∈ selL dd l ws) ?_ (fun ws i ih => ?_) ws
  · unfold atL; rw [times_nil, atL_none]; exact Iff.rfl
  · unfold atL at ih ⊢
    rw [times_snoc, selL_snoc]
    by_cases h : 0 ≤ i ∧ i < (l.length : Int)
    · rw [if_pos h, if_pos h, List.mem_append, List.mem_singleton, ← ih, at_mem, at_mem]
      have hb : i.toNat < (timesL l.length ws).length := by rw [times_len]; omega
      constructor
      · rintro ⟨j, h1, h2, h3⟩
        by_cases e : j = i.toNat
        · subst e; exact .inr h3
        · rw [at_ne e] at h2
          exact .inl ⟨j, h1, h2, h3⟩
      · rintro (⟨j, h1, h2, h3⟩ | h3)
        · by_cases e : j = i.toNat
          · subst e
            exact ⟨i.toNat, h1, by rw [at_set hb]; omega, h3⟩
          · exact ⟨j, h1, by rw [at_ne e]; exact h2, h3⟩
        · exact ⟨i.toNat, by omega, by rw [at_set hb]; omega, h3⟩
    · rw [if_neg h, if_neg h, ih]
theorem atTo_map {α β : Type} {dd : α} (f : α → β) (l : List α) (c : List Nat) : ∀ n, n ≤ l.length → (atTo dd l c n).map f = atTo (f dd) (l.map f) c n
  | 0, _ => rfl
  | n + 1, h => by
    have ih := atTo_map (dd := dd) f l c n (by omega)
    have e : f (l.getD n dd) = (l.map f).getD n (f dd) := by
      rw [List.getD_eq_getElem?_getD, List.getElem?_eq_getElem (show n < l.length by omega), List.getD_eq_getElem?_getD, List.getElem?_map, List.getElem?_eq_getElem (show n < l.length by omega)]
      rfl
    by_cases z : c.getD n 0 = 0
    · rw [atTo_no z, atTo_no z, ih]
    · by_cases z2 : c.getD n 0 % 2 = 0
      · rw [atTo_even z z2, atTo_even z z2, List.map_append, List.map_append, ih, List.map_singleton, e]
      · rw [atTo_odd z z2, atTo_odd z z2, List.map_append, ih, List.map_singleton, e]
theorem atL_map {α β : Type} {dd : α} (f : α → β) (l : List α) (ws : List Int) : (atL dd l ws).map f = atL (f dd) (l.map f) ws := by
  unfold atL
  rw [atTo_map f l _ _ (Nat.le_refl _), List.length_map]
/-- What is made hangs on the members, the xor and no more. -/
theorem mix_congr {P Q : List PD} (hm : ∀ p, p ∈ P ↔ p ∈ Q) (hv : vecX P = vecX Q) (ht : txtX P = txtX Q) : mixL P = mixL Q := by
  cases P with
  | nil =>
    cases Q with
    | nil => rfl
    | cons q Q => exact absurd ((hm q).2 List.mem_cons_self) (by simp)
  | cons p P =>
    cases Q with
    | nil => exact absurd ((hm p).1 List.mem_cons_self) (by simp)
    | cons q Q =>
      have hh : hopX (p :: P) = hopX (q :: Q) := by
        apply Int.le_antisymm
        · exact hop_le fun r hr => hop_ge ((hm r).1 hr)
        · exact hop_le fun r hr => hop_ge ((hm r).2 hr)
      have side : ∀ {p q : PD} {P Q : List PD}, (∀ r, r ∈ p :: P ↔ r ∈ q :: Q) → (∀ r ∈ P, alkD p r = true) → (∀ r ∈ Q, alkD q r = true) ∧ alkD p q = true := by
        intro p q P Q hm h
        have hall : ∀ r ∈ p :: P, alkD p r = true := fun r hr => by
          rcases List.mem_cons.1 hr with e | e
          · rw [e]; exact alk_refl _
          · exact h r e
        have hq : alkD p q = true := hall q ((hm q).2 List.mem_cons_self)
        exact ⟨fun r hr => alk_trans (alk_symm hq) (hall r ((hm r).2 (List.mem_cons_of_mem _ hr))), hq⟩
      rw [mixL_cons, mixL_cons, hv, ht, hh]
      by_cases h : ∀ r ∈ P, alkD p r = true
      · obtain ⟨h1, h2⟩ := side hm h
        by_cases h3 : 0 < cnt (vecX (q :: Q)) ∧ hopX (q :: Q) < 15
        · rw [if_pos ⟨h, h3⟩, if_pos ⟨h1, h3⟩]
          unfold alkD at h2
          rw [decide_eq_true_eq] at h2
          rw [h2.1, h2.2.1, h2.2.2.1, h2.2.2.2]
        · rw [if_neg (fun e => h3 e.2), if_neg (fun e => h3 e.2)]
      · rw [if_neg (fun e => h e.1), if_neg (fun e => h (side (fun r => (hm r).symm) e.1).1)]
theorem sel_is (L : List PD) (ws : List Int) : selD L ws = selL .dflt L ws := rfl
theorem mix_at (L : List PD) (ws : List Int) : mixL (atL .dflt L ws) = mixD L ws := mix_congr (fun p => atL_mem) (atL_xor (fun p : PD => p.xs) L ws) (atL_xor (fun p : PD => tx p.s) L ws)
end Go.Proofs.YtfimbbiholllhaaDoor
namespace Go.Proofs.YtfimbbiholllhaaDoor
set_option linter.unusedVariables false
set_option maxRecDepth 4000

/-- The n-th draw, from 1 on. -/
def drawN (L : List Nat) (n : Nat) : Nat := if n ≤ L.length then L.getD (n - 1) 0 else n * 11400714819323198485 % 18446744073709551616
theorem drawN_in {L : List Nat} {n : Nat} (h : n < L.length) : drawN L (n + 1) = L.getD n 0 := by
  unfold drawN
  rw [if_pos (by omega), Nat.add_sub_cancel]
theorem drawN_out {L : List Nat} {n : Nat} (h : L.length < n) : drawN L n = n * 11400714819323198485 % 18446744073709551616 := by
  unfold drawN
  rw [if_neg (by omega)]
theorem drawN_lt {L : List Nat} (h : smalls L) (n : Nat) : drawN L n < 18446744073709551616 := by
  unfold drawN
  split
  · exact h.get _
  · omega

/-- What is left of zs when k were taken, N draws having been used ahead. -/
def leftL (L : List Nat) (N : Nat) (zs : List Nat) : Nat → List Nat
  | 0 => zs
  | k + 1 => (leftL L N zs k).eraseIdx (drawN L (N + k + 1) % (leftL L N zs k).length)
/-- What was taken, one behind the other. -/
def picksL (L : List Nat) (N : Nat) (zs : List Nat) : Nat → List Nat
  | 0 => []
  | k + 1 => picksL L N zs k ++ [(leftL L N zs k).getD (drawN L (N + k + 1) % (leftL L N zs k).length) 0]
theorem leftL_length (L : List Nat) (N : Nat) (zs : List Nat) : ∀ k, k ≤ zs.length → (leftL L N zs k).length = zs.length - k
  | 0, _ => rfl
  | k + 1, h => by
    have ih := leftL_length L N zs k (by omega)
    have hlt : drawN L (N + k + 1) % (leftL L N zs k).length < (leftL L N zs k).length := Nat.mod_lt _ (by omega)
    show ((leftL L N zs k).eraseIdx _).length = _
    rw [List.length_eraseIdx, if_pos hlt, ih]
    omega
theorem picksL_length (L : List Nat) (N : Nat) (zs : List Nat) : ∀ k, (picksL L N zs k).length = k
  | 0 => rfl
  | k + 1 => by
    show (picksL L N zs k ++ [_]).length = _
    rw [List.length_append, picksL_length L N zs k]; rfl
theorem erase_perm (l : List Nat) (j : Nat) (h : j < l.length) : (l.getD j 0 :: l.eraseIdx j).Perm l := by
  rw [List.eraseIdx_eq_take_drop_succ]
  have e : l = l.take j ++ l.getD j 0 :: l.drop (j + 1) := by
    rw [List.getD_eq_getElem?_getD, List.getElem?_eq_getElem h]
    simp
  exact (List.perm_middle.symm).trans (List.Perm.of_eq e.symm)
theorem picks_perm (L : List Nat) (N : Nat) (zs : List Nat) : ∀ k, k ≤ zs.length → (picksL L N zs k ++ leftL L N zs k).Perm zs
  | 0, _ => List.Perm.refl _
  | k + 1, h => by
    have ih := picks_perm L N zs k (by omega)
    have hl := leftL_length L N zs k (by omega)
    have hlt : drawN L (N + k + 1) % (leftL L N zs k).length < (leftL L N zs k).length := Nat.mod_lt _ (by omega)
    show ((picksL L N zs k ++ [_]) ++ (leftL L N zs k).eraseIdx _).Perm zs
    rw [List.append_assoc]
    exact (List.Perm.append_left _ (erase_perm _ _ hlt)).trans ih
/-- What was taken of the numbers below n, rising. -/
def distL (L : List Nat) (N n k : Nat) : List Nat := (List.range n).filter fun i => decide (i ∉ leftL L N (List.range n) k)
theorem dist_perm (L : List Nat) (N n k : Nat) (h : k ≤ n) : (picksL L N (List.range n) k).Perm (distL L N n k) := by
  have hp := picks_perm L N (List.range n) k (by simpa using h)
  have hn := hp.symm.nodup List.nodup_range
  obtain ⟨_, _, hd⟩ := List.nodup_append.1 hn
  have hf := hp.filter fun i => decide (i ∉ leftL L N (List.range n) k)
  have h1 : (picksL L N (List.range n) k).filter (fun i => decide (i ∉ leftL L N (List.range n) k)) = picksL L N (List.range n) k := List.filter_eq_self.2 fun a ha => by simpa using fun hb => hd a ha a hb rfl
  have h2 : (leftL L N (List.range n) k).filter (fun i => decide (i ∉ leftL L N (List.range n) k)) = [] := List.filter_eq_nil_iff.2 fun a ha => by simp [ha]
  rw [List.filter_append, h1, h2, List.append_nil] at hf
  exact hf
theorem distL_length (L : List Nat) (N n k : Nat) (h : k ≤ n) : (distL L N n k).length = k := by
  rw [← (dist_perm L N n k h).length_eq, picksL_length]
def castZ (l : List Nat) : List Int := l.map fun (x : Nat) => (x : Int)
theorem castZ_length (l : List Nat) : (castZ l).length = l.length := by simp [castZ]
theorem castZ_getD (l : List Nat) (i : Nat) : (castZ l).getD i 0 = ((l.getD i 0 : Nat) : Int) := by
  simp only [castZ, List.getD_eq_getElem?_getD, List.getElem?_map]
  cases l[i]? <;> rfl
theorem castZ_append (l m : List Nat) : castZ (l ++ m) = castZ l ++ castZ m := by simp [castZ]
theorem castZ_erase (l : List Nat) (j : Nat) : castZ (l.eraseIdx j) = (castZ l).eraseIdx j := by
  simp [castZ, List.eraseIdx_eq_take_drop_succ, List.map_take, List.map_drop]
theorem dist_sort (L : List Nat) (N n k : Nat) (h : k ≤ n) : (castZ (picksL L N (List.range n) k)).mergeSort (fun x y => decide (x ≤ y)) = castZ (distL L N n k) := by
  have hp : ((castZ (picksL L N (List.range n) k)).mergeSort fun x y => decide (x ≤ y)).Perm (castZ (distL L N n k)) := (List.mergeSort_perm _ _).trans ((dist_perm L N n k h).map _)
  refine List.Perm.eq_of_pairwise (le := fun x y : Int => x ≤ y) (fun a b _ _ h1 h2 => Int.le_antisymm h1 h2) ?_ ?_ hp
  · have := List.pairwise_mergeSort (le := fun x y : Int => decide (x ≤ y)) (fun a b c h1 h2 => by simp at *; omega) (fun a b => by simp; omega) (castZ (picksL L N (List.range n) k))
    exact this.imp fun h => by simpa using h
  · have : (distL L N n k).Pairwise (· < ·) := List.Pairwise.filter _ List.pairwise_lt_range
    exact List.Pairwise.map _ (fun a b hab => by omega) this
theorem distL_rise (L : List Nat) (N n k i : Nat) (h : i + 1 < (distL L N n k).length) : (distL L N n k).getD i 0 < (distL L N n k).getD (i + 1) 0 := by
  have hr : (distL L N n k).Pairwise (· < ·) := List.Pairwise.filter _ List.pairwise_lt_range
  have := List.pairwise_iff_getElem.1 hr i (i + 1) (by omega) h (by omega)
  simpa [List.getD_eq_getElem?_getD, List.getElem?_eq_getElem h, List.getElem?_eq_getElem (show i < (distL L N n k).length by omega)] using this
theorem distL_lt (L : List Nat) (N n k i : Nat) (h : i < (distL L N n k).length) : (distL L N n k).getD i 0 < n := by
  have hm : (distL L N n k)[i] ∈ distL L N n k := List.getElem_mem h
  have := (List.mem_filter.1 hm).1
  simpa [List.getD_eq_getElem?_getD, List.getElem?_eq_getElem h] using this

/-- The numbers below n that bear no mark. -/
def untaken (bs : List Bool) (n : Nat) : List Nat := (List.range n).filter fun i => !bs.getD i false
/-- .. and those that do. -/
def marked (bs : List Bool) (n : Nat) : List Nat := (List.range n).filter fun i => bs.getD i false
theorem untaken_no {bs : List Bool} {n : Nat} (h : bs.getD n false = true) : untaken bs (n + 1) = untaken bs n := by
  unfold untaken
  rw [List.range_succ, List.filter_append, List.filter_cons, if_neg (by rw [h]; simp)]
  simp
theorem untaken_yes {bs : List Bool} {n : Nat} (h : bs.getD n false = false) : untaken bs (n + 1) = untaken bs n ++ [n] := by
  unfold untaken
  rw [List.range_succ, List.filter_append, List.filter_cons, if_pos (by rw [h]; rfl)]
  simp
theorem marked_yes {bs : List Bool} {n : Nat} (h : bs.getD n false = true) : marked bs (n + 1) = marked bs n ++ [n] := by
  unfold marked
  rw [List.range_succ, List.filter_append, List.filter_cons, if_pos h]
  simp
theorem marked_no {bs : List Bool} {n : Nat} (h : bs.getD n false = false) : marked bs (n + 1) = marked bs n := by
  unfold marked
  rw [List.range_succ, List.filter_append, List.filter_cons, if_neg (by rw [h]; simp)]
  simp
theorem marked_le (bs : List Bool) (n : Nat) : (marked bs n).length ≤ n := by
  have := List.length_filter_le (fun i => bs.getD i false) (List.range n)
  rwa [List.length_range] at this
theorem range_cut {n t : Nat} (h : t < n) : List.range n = List.range t ++ t :: List.range' (t + 1) (n - t - 1) := by
  rw [List.range_eq_range', List.range_eq_range']
  have h1 : List.range' 0 n = List.range' 0 (t + (n - t)) := by rw [show t + (n - t) = n by omega]
  rw [h1, ← List.range'_append, Nat.one_mul, Nat.zero_add]
  congr 1
  rw [show n - t = (n - t - 1) + 1 by omega, List.range'_succ]
  rfl
theorem set_other (bs : List Bool) (t i : Nat) (h : i ≠ t) : (bs.set t true).getD i false = bs.getD i false := by
  simp only [List.getD_eq_getElem?_getD]
  rw [List.getElem?_set_ne (by omega)]
theorem set_same (bs : List Bool) (t : Nat) (h : t < bs.length) : (bs.set t true).getD t false = true := by
  simp [List.getD_eq_getElem?_getD, h]
/-- The number that is marked is the one that so many untaken ones stand ahead of. -/
theorem untaken_set (bs : List Bool) (n t : Nat) (hl : bs.length = n) (h : t < n) (hf : bs.getD t false = false) :
    untaken (bs.set t true) n = (untaken bs n).eraseIdx (untaken bs t).length := by
  unfold untaken
  rw [range_cut h, List.filter_append, List.filter_append, List.filter_cons, List.filter_cons, if_neg (by rw [set_same bs t (by omega)]; simp), if_pos (by rw [hf]; rfl),
    List.eraseIdx_append_of_length_le (Nat.le_refl _), Nat.sub_self, List.eraseIdx_cons_zero]
  congr 1
  · refine List.filter_congr fun i hi => ?_
    rw [set_other bs t i (by have := List.mem_range.1 hi; omega)]
  · refine List.filter_congr fun i hi => ?_
    obtain ⟨j, _, rfl⟩ := List.mem_range'.1 hi
    rw [set_other bs t _ (by omega)]
theorem marked_dist {L : List Nat} {N n k : Nat} {bs : List Bool} (h : untaken bs n = leftL L N (List.range n) k) : marked bs n = distL L N n k := by
  unfold marked distL
  refine List.filter_congr fun i hi => ?_
  rw [← h]
  unfold untaken
  cases hb : bs.getD i false
  · simp only [List.mem_filter, hi, hb, true_and]
    simp
  · simp only [List.mem_filter, hi, hb, true_and]
    simp
theorem untaken_new (n : Nat) : untaken (List.replicate n false) n = List.range n := by
  unfold untaken
  refine List.filter_eq_self.2 fun a ha => ?_
  simp [List.getD_eq_getElem?_getD, List.mem_range.1 ha]
end Go.Proofs.YtfimbbiholllhaaDoor
