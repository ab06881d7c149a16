/-
  The walk of PeelRank: for every input it tells true and writes nothing that was there.
-/
import Derived.Test.YtjppopabjfncpaaDoorM8
import Derived.Test.YtjppopabjfncpaaDoorM23
import Derived.Test.YtjppopabjfncpaaDoorM9
namespace Go.Proofs.YtjppopabjfncpaaDoor
open Go.RowKit Go.Sort
set_option linter.unusedVariables false
set_option maxRecDepth 4000

/-- A number without the known bits below n. -/
def clr (x : Nat) (kn : List Nat) : Nat → Nat
  | 0 => x
  | n + 1 => if (getB kn n && (clr x kn n).testBit n) = true then clr x kn n ^^^ 2 ^ n else clr x kn n
theorem clr_bit (x : Nat) (kn : List Nat) : ∀ n i, (clr x kn n).testBit i = (x.testBit i && !(getB kn i && decide (i < n)))
  | 0, i => by simp [clr]
  | n + 1, i => by
    have ih := clr_bit x kn n
    unfold clr
    by_cases e : i = n
    · subst e
      split
      · rename_i h
        rw [Bool.and_eq_true] at h
        rw [Nat.testBit_xor, Nat.testBit_two_pow, h.2, h.1]
        simp
      · rename_i h
        rw [ih]
        rw [ih] at h
        cases hg : getB kn i <;> cases hx : x.testBit i <;> simp_all
    · have hlt : (i < n + 1) = (i < n) := propext (by omega)
      split
      · have hni : decide (n = i) = false := decide_eq_false (fun h => e h.symm)
        rw [Nat.testBit_xor, Nat.testBit_two_pow, ih, hni, Bool.xor_false]
        simp only [hlt]
      · rw [ih]
        simp only [hlt]
theorem clr_sp {S : List Nat} {kn : List Nat} (h : ∀ b, getB kn b = true → Ech.Sp S (2 ^ b)) (x : Nat) : ∀ n, Ech.Sp S (clr x kn n) ↔ Ech.Sp S x
  | 0 => Iff.rfl
  | n + 1 => by
    rw [← clr_sp h x n, show clr x kn (n + 1) = (if (getB kn n && (clr x kn n).testBit n) = true then clr x kn n ^^^ 2 ^ n else clr x kn n) from rfl]
    split
    · rename_i hc
      rw [Bool.and_eq_true] at hc
      have hb := h n hc.1
      constructor
      · intro hs
        have := hs.xor hb
        rwa [Nat.xor_assoc, Nat.xor_self, Nat.xor_zero] at this
      · intro hs
        exact hs.xor hb
    · exact Iff.rfl
theorem val_drop {xs kn : List Nat} (hx : smalls xs) : val (dropL xs kn) = clr (val xs) kn (64 * xs.length) := by
  apply Nat.eq_of_testBit_eq
  intro i
  rw [val_bit (dropL_small hx _), dropL_bit, clr_bit, val_bit hx]
  by_cases hi : i < 64 * xs.length
  · simp [hi]
  · rw [getB_out xs i (by omega)]; simp
theorem drop_sp {S : List Nat} {xs kn : List Nat} (hx : smalls xs) (h : ∀ b, getB kn b = true → Ech.Sp S (2 ^ b)) : Ech.Sp S (val (dropL xs kn)) ↔ Ech.Sp S (val xs) := by
  rw [val_drop hx, clr_sp h]
theorem val_one {xs : List Nat} {b : Nat} (hx : smalls xs) (h : ∀ i, getB xs i = decide (i = b)) : val xs = 2 ^ b := by
  apply Nat.eq_of_testBit_eq
  intro i
  rw [val_bit hx, h, Nat.testBit_two_pow]
  by_cases e : i = b
  · simp [e]
  · rw [decide_eq_false e, decide_eq_false (fun h => e h.symm)]
theorem val_none {xs : List Nat} (hx : smalls xs) (h : cnt xs = 0) : val xs = 0 := by
  apply Nat.eq_of_testBit_eq
  intro i
  rw [val_bit hx, cnt_none.1 h, Nat.zero_testBit]
/-- What is known lies in the span of the rows. -/
theorem Run.sp {k : Int} {rs : List RV} (hg : Good rs) {S : List Nat} (hS : ∀ r ∈ rs, validB k r.xs = true → Ech.Sp S (val r.xs)) : ∀ {j : Nat} {kn : List Nat} {bs : List ByteArray}, Run k rs j kn bs → ∀ b, getB kn b = true → Ech.Sp S (2 ^ b)
  | 0, kn, bs, ⟨h1, h2⟩, b, hb => by rw [h1, bit_zeros] at hb; cases hb
  | j + 1, kn, bs, ⟨kn0, bs0, r, h1, h2, h3, h4⟩, b, hb => by
    have ih := Run.sp hg hS h1
    have hm := List.mem_of_find?_eq_some h2
    obtain ⟨hv, hbits, hk0, hx0, hbk, hfi⟩ := tells_bit (hg r hm).1 (List.find?_some h2)
    have hK := Run.known (valid_size hv).1 hg h1
    have hroom := size_room hK.size
    rw [h3, bit_setB _ _ _ _ (by rw [hK.len]; omega)] at hb
    by_cases e : b = blkOf kn0 r
    · have := (drop_sp (hg r hm).1 ih).2 (hS r hm hv)
      rw [val_one (dropL_small (hg r hm).1 _) hbits] at this
      rw [e]; exact this
    · rw [if_neg e] at hb
      exact ih b hb
theorem vecs_core {ts us : List RV} (h : ts.map core = us.map core) : vecsL ts = vecsL us := by
  have := congrArg (List.map Prod.fst) h
  rw [List.map_map, List.map_map] at this
  exact this
/-- Peeling changes no span. -/
theorem peel_span {k : Int} {rs : List RV} {kn : List Nat} {bs : List ByteArray} (hP : PeelP k rs kn bs) (hg : Good rs) (x : Nat) :
    Ech.Sp (((toldTo k kn bs k.toNat ++ restL k rs kn bs).map Prod.fst).map val) x ↔ Ech.Sp ((vecsL (rs.filter fun r => validB k r.xs)).map val) x := by
  by_cases hz : sizeOfK k = 0
  · obtain ⟨p1, p2, p3⟩ := peelP_none (rs := rs) hz
    obtain ⟨rfl, rfl⟩ := hP.uniq p1
    have : (rs.filter fun r => validB k r.xs) = [] := List.filter_eq_nil_iff.2 fun r _ hv => by have := (valid_size hv).1; omega
    rw [p2, p3, this]
    exact Iff.rfl
  · obtain ⟨j, hK⟩ := hP.kn hg (by omega)
    have hroom := size_room hK.size
    have hmV : ∀ r ∈ rs, validB k r.xs = true → val r.xs ∈ (vecsL (rs.filter fun r => validB k r.xs)).map val := fun r hr hv =>
      List.mem_map.2 ⟨r.xs, List.mem_map.2 ⟨r, List.mem_filter.2 ⟨hr, hv⟩, rfl⟩, rfl⟩
    have hV : ∀ b, getB kn b = true → Ech.Sp ((vecsL (rs.filter fun r => validB k r.xs)).map val) (2 ^ b) := by
      obtain ⟨⟨j', hj'⟩, _⟩ := hP
      exact Run.sp hg (fun r hr hv => .of_mem (hmV r hr hv)) hj'
    have hA : ∀ b, getB kn b = true → Ech.Sp (((toldTo k kn bs k.toNat ++ restL k rs kn bs).map Prod.fst).map val) (2 ^ b) := fun b hb => by
      have hbk := hK.below b hb
      refine .of_mem (List.mem_map.2 ⟨unitL k (b : Int), List.mem_map.2 ⟨(unitL k (b : Int), bs.getD b ByteArray.empty), List.mem_append.2 (.inl ?_), rfl⟩, val_one (unit_small (by omega)) (unit_bit hK.size (by omega))⟩)
      unfold toldTo
      exact List.mem_map.2 ⟨b, List.mem_filter.2 ⟨List.mem_range.2 hbk, hb⟩, rfl⟩
    constructor
    · refine fun h => h.of fun y hy => ?_
      obtain ⟨v, hv, rfl⟩ := List.mem_map.1 hy
      obtain ⟨c, hc, rfl⟩ := List.mem_map.1 hv
      rcases List.mem_append.1 hc with hc | hc
      · obtain ⟨b, hb, hgb, rfl⟩ := told_mem hK hc
        show Ech.Sp _ (val (unitL k (b : Int)))
        rw [val_one (unit_small (by omega)) (unit_bit hK.size (by omega))]
        exact hV b hgb
      · unfold restL at hc
        obtain ⟨r, hr, rfl⟩ := List.mem_map.1 hc
        have hm := List.mem_filter.1 hr
        have hv : validB k r.xs = true := by
          have := hm.2
          unfold restB at this
          rw [Bool.and_eq_true, Bool.and_eq_true] at this
          exact this.1.1
        exact (drop_sp (hg r hm.1).1 hV).2 (.of_mem (hmV r hm.1 hv))
    · refine fun h => h.of fun y hy => ?_
      obtain ⟨v, hv, rfl⟩ := List.mem_map.1 hy
      obtain ⟨r, hr, rfl⟩ := List.mem_map.1 hv
      have hm := List.mem_filter.1 hr
      refine (drop_sp (hg r hm.1).1 hA).1 ?_
      by_cases h0 : cnt (dropL r.xs kn) = 0
      · rw [val_none (dropL_small (hg r hm.1).1 _) h0]; exact .zero
      · have hno := List.find?_eq_none.1 hP.2 r hm.1
        unfold tellsB at hno
        rw [hm.2, Bool.true_and, decide_eq_true_eq] at hno
        refine .of_mem (List.mem_map.2 ⟨dropL r.xs kn, List.mem_map.2 ⟨(dropL r.xs kn, txtL bs r.xs r.s), List.mem_append.2 (.inr ?_), rfl⟩, rfl⟩)
        unfold restL
        refine List.mem_map.2 ⟨r, List.mem_filter.2 ⟨hm.1, ?_⟩, rfl⟩
        unfold restB
        rw [hm.2, decide_eq_false h0, decide_eq_false hno]; rfl
theorem rank_eq {A V : List (List Nat)} (hA : Fit 1048576 A) (hV : Fit 1048576 V) (h : ∀ x, Ech.Sp (A.map val) x ↔ Ech.Sp (V.map val) x) : (basisL A).length = (basisL V).length := by
  have h1 := basis_val hA
  have h2 := basis_val hV
  have e : Ech.basis (A.map val) = Ech.basis (V.map val) := Ech.uniq (Ech.red_basis _) (Ech.red_basis _) fun x => by rw [Ech.sp_basis, Ech.sp_basis]; exact h x
  have := congrArg List.length (h1.trans (e.trans h2.symm))
  rwa [List.length_map, List.length_map] at this


theorem short_append {ts us : List RV} (h1 : shortR ts) (h2 : shortR us) : shortR (ts ++ us) := fun i => by
  by_cases hi : i < ts.length
  · rw [List.getD_eq_getElem?_getD, List.getElem?_append_left hi, ← List.getD_eq_getElem?_getD]; exact h1 i
  · rw [List.getD_eq_getElem?_getD, List.getElem?_append_right (by omega), ← List.getD_eq_getElem?_getD]; exact h2 _
theorem vecs_append (ts us : List RV) : vecsL (ts ++ us) = vecsL ts ++ vecsL us := by simp [vecsL]
theorem PeelR.rank {w w' : World} {k : Int} {rs : List RV} {a1 : Option Addr} {m1 c1 : Nat} {ts1 : List RV} {a2 : Option Addr} {m2 c2 : Nat} {ts2 : List RV} (h : PeelR w w' k rs a1 m1 c1 ts1 a2 m2 c2 ts2) (hg : Good rs) (hl : ∀ r ∈ rs, r.xs.length ≤ 10) (s1 : shortR ts1) (s2 : shortR ts2) : (basisL (vecsL (ts1 ++ ts2))).length = (basisL (vecsL (rs.filter fun r => validB k r.xs))).length := by
  obtain ⟨kn, bs, hP, o1, i1, e1, o2, i2, e2, hb⟩ := h
  have eA : vecsL (ts1 ++ ts2) = (toldTo k kn bs k.toNat ++ restL k rs kn bs).map Prod.fst := by
    rw [← e1, ← e2, ← List.map_append, List.map_map]; rfl
  refine rank_eq (fit_of (i1.append i2) (short_append s1 s2)) (fun b hb => ?_) fun x => ?_
  · obtain ⟨r, hm, rfl⟩ := List.mem_map.1 hb
    have hm := (List.mem_filter.1 hm).1
    exact ⟨(hg r hm).1, by have := hl r hm; omega⟩
  · rw [eA]; exact peel_span hP hg x

end Go.Proofs.YtjppopabjfncpaaDoor
