/-
  Packets as data ('PD'): which may be ('okD'), which are of one object ('alkD'). No condition.
-/
import Derived.Test.YtbppanebpfpioaaDoorM2
import Derived.Test.YtbppanebpfpioaaDoorM4
import Derived.Test.YtbppanebpfpioaaDoorPC
import Derived.Test.YtbppanebpfpioaaDoorBitsB
namespace Go.Proofs.YtbppanebpfpioaaDoor
open Go.RowKit Go.Sort
set_option linter.unusedVariables false
set_option maxRecDepth 4000

/-- A packet as data. -/
structure PD where
  o : Int
  l : Int
  k : Int
  z : Int
  h : Int
  xs : List Nat
  s : ByteArray
/-- What stands behind the end of a list of packets. -/
def PD.dflt : PD := ⟨0, 0, 0, 0, 0, [], ⟨#[]⟩⟩
def PKV.pd (p : PKV) : PD := ⟨p.o, p.l, p.k, p.z, p.h, p.r.xs, p.r.s⟩
/-- May it be? -/
def okD (p : PD) : Bool := decide (((1 ≤ p.k ∧ p.k ≤ 128) ∧ 1 ≤ p.z ∧ p.z ≤ 64) ∧ (0 ≤ p.o ∧ p.o ≤ 4294967295) ∧ (0 ≤ p.l ∧ p.l ≤ p.k * p.z) ∧ 0 ≤ p.h ∧ p.h ≤ 15) && (validB p.k p.xs && decide (0 < cnt p.xs) && decide ((p.s.size : Int) = p.z))
theorem okD_iff {p : PD} : okD p = true ↔ CheckP p.o p.l p.k p.z p.h p.xs p.s.size := by
  unfold okD CheckP
  rw [Bool.and_eq_true, Bool.and_eq_true, Bool.and_eq_true, validB_iff, decide_eq_true_eq, decide_eq_true_eq, decide_eq_true_eq]
  unfold boundP shapedP rowedP
  rw [and_assoc (a := ValidP p.k p.xs)]
theorem okD_ck (p : PD) : CkP (if okD p = true then 0 else 1) (CheckP p.o p.l p.k p.z p.h p.xs p.s.size) := by
  by_cases h : okD p = true
  · rw [if_pos h]; exact .inl ⟨okD_iff.1 h, rfl⟩
  · rw [if_neg h]; exact .inr ⟨fun hc => h (okD_iff.2 hc), rfl⟩
theorem okD_valid {p : PD} (h : okD p = true) : ValidP p.k p.xs ∧ 0 < cnt p.xs ∧ (p.s.size : Int) = p.z ∧ 1 ≤ p.k ∧ p.k ≤ 128 ∧ p.z ≤ 64 := by
  obtain ⟨⟨⟨h1, h2⟩, _⟩, h3, h4, h5⟩ := okD_iff.1 h
  exact ⟨h3, h4, h5, h1.1, h1.2, h2.2⟩
theorem okD_len {p : PD} (h : okD p = true) : p.xs.length ≤ 2 := by
  obtain ⟨⟨h1, h2, _⟩, _⟩ := okD_valid h
  have := sizeOfK_le p.k
  omega
theorem okD_cnt {p : PD} (h : okD p = true) : (cnt p.xs : Int) ≤ p.k := by
  obtain ⟨⟨_, _, h3⟩, _, _, hk, _⟩ := okD_valid h
  have h1 := (upTo_cnt p.xs p.k.toNat).2 h3
  have h2 := upTo_le p.xs p.k.toNat
  omega
def vecsD (L : List PD) : List (List Nat) := L.map fun p => p.xs
theorem vecsD_len (L : List PD) : (vecsD L).length = L.length := by simp [vecsD]
/-- Are they of the same object? -/
def alkD (q p : PD) : Bool := decide (q.o = p.o ∧ q.l = p.l ∧ q.k = p.k ∧ q.z = p.z)
theorem alk_symm {p q : PD} (h : alkD p q = true) : alkD q p = true := by
  unfold alkD at *
  rw [decide_eq_true_eq] at *
  exact ⟨h.1.symm, h.2.1.symm, h.2.2.1.symm, h.2.2.2.symm⟩
theorem alk_trans {p q r : PD} (h : alkD p q = true) (k : alkD q r = true) : alkD p r = true := by
  unfold alkD at *
  rw [decide_eq_true_eq] at *
  exact ⟨h.1.trans k.1, h.2.1.trans k.2.1, h.2.2.1.trans k.2.2.1, h.2.2.2.trans k.2.2.2⟩
theorem alk_refl (p : PD) : alkD p p = true := by unfold alkD; rw [decide_eq_true_eq]; exact ⟨rfl, rfl, rfl, rfl⟩
theorem ckD_no {p : PKV} (h : okD p.pd = false) : CkP 1 (CheckP p.o p.l p.k p.z p.h p.r.xs p.r.s.size) := by
  have := okD_ck p.pd
  rw [h] at this
  exact this
theorem ckD_yes {p : PKV} (h : okD p.pd = true) : CkP 0 (CheckP p.o p.l p.k p.z p.h p.r.xs p.r.s.size) := by
  have := okD_ck p.pd
  rw [h] at this
  exact this
theorem pdGet {ps : List PKV} {i : Nat} (hi : i < ps.length) : (ps.map PKV.pd).getD i .dflt = (ps.getD i .dflt).pd := by
  rw [List.getD_eq_getElem?_getD, List.getElem?_map, List.getElem?_eq_getElem hi, List.getD_eq_getElem?_getD, List.getElem?_eq_getElem hi]
  rfl
end Go.Proofs.YtbppanebpfpioaaDoor
