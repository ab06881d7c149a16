/-
  What peeling leaves is of k blocks, and is true where the rows are; elimination of true rows, peeled or not. No condition.
-/
import Derived.Test.YtjppopabjfncpaaDoorJG
namespace Go.Proofs.YtjppopabjfncpaaDoor
open Go.RowKit Go.Sort
set_option linter.unusedVariables false
set_option maxRecDepth 4000

theorem unit_valid {k : Int} {b : Nat} (hs : 0 < sizeOfK k) (hb : (b : Int) < k) : validB k (unitL k (b : Int)) = true := by
  refine validB_iff.2 ⟨by rw [unit_len hb]; exact hs, unit_len hb, fun i hi => ?_⟩
  rw [unit_bit hs hb, decide_eq_false (by omega)]
theorem drop_valid {k : Int} {xs : List Nat} (kn : List Nat) (h : validB k xs = true) : validB k (dropL xs kn) = true := by
  obtain ⟨h1, h2, h3⟩ := validB_iff.1 h
  refine validB_iff.2 ⟨by rw [dropL_length]; exact h1, by rw [dropL_length]; exact h2, fun i hi => ?_⟩
  rw [dropL_bit, h3 i hi]; rfl
theorem peel_valid {k : Int} {rs : List RV} {kn : List Nat} {bs : List ByteArray} (hP : PeelP k rs kn bs) (hg : Good rs) : ∀ x ∈ peelC k rs kn bs, validB k x.1 = true := by
  intro x hx
  by_cases hz : sizeOfK k = 0
  · obtain ⟨p1, p2, p3⟩ := peelP_none (rs := rs) hz
    obtain ⟨rfl, rfl⟩ := hP.uniq p1
    unfold peelC at hx
    rw [p2, p3] at hx; cases hx
  · obtain ⟨j, hK⟩ := hP.kn hg (by omega)
    unfold peelC at hx
    rcases List.mem_append.1 hx with hx | hx
    · obtain ⟨b, hb, _, rfl⟩ := told_mem hK hx
      exact unit_valid hK.size (by omega)
    · unfold restL at hx
      obtain ⟨r, hr, rfl⟩ := List.mem_map.1 hx
      have := (List.mem_filter.1 hr).2
      unfold restB at this
      rw [Bool.and_eq_true, Bool.and_eq_true] at this
      exact drop_valid kn this.1.1
theorem valid_all_core {k : Int} {ts : List RV} {L : List (List Nat × ByteArray)} (h : ts.map core = L) (hv : ∀ x ∈ L, validB k x.1 = true) : validC k ts = L := by
  unfold validC
  have : (ts.filter fun r => validB k r.xs) = ts := List.filter_eq_self.2 fun r hr => hv (core r) (by rw [← h]; exact List.mem_map.2 ⟨r, hr, rfl⟩)
  rw [this]
  exact h
theorem ofL_small {ss : List ByteArray} {m : Nat} (h : ∀ i, (ss.getD i ByteArray.empty).size ≤ m) (vs : List Nat) : ∀ n, (ofL ss vs n).length ≤ m
  | 0 => by simp [ofL]
  | n + 1 => by
    unfold ofL
    split
    · rw [xorL_length, tx_length]
      have := ofL_small h vs n
      have := h n
      omega
    · exact ofL_small h vs n
theorem txtL_same {bs : List ByteArray} {xs : List Nat} {s : ByteArray} {m : Nat} (h : ∀ i, (bs.getD i ByteArray.empty).size ≤ m) (hs : s.size = m) : (txtL bs xs s).size = m := by
  unfold txtL
  rw [xorS_size, st_len, hs]
  have := ofL_small h xs bs.length
  omega
theorem run_sizes {k : Int} {rs : List RV} {m : Nat} (hz : 0 < sizeOfK k) (hg : Good rs) (hm : ∀ r ∈ rs, r.s.size = m) : ∀ {j : Nat} {kn : List Nat} {bs : List ByteArray}, Run k rs j kn bs → (∀ b, getB kn b = true → (bs.getD b ByteArray.empty).size = m) ∧ ∀ b, (bs.getD b ByteArray.empty).size ≤ m
  | 0, kn, bs, ⟨h1, h2⟩ => by
    refine ⟨(fun b hb => by rw [h1, bit_zeros] at hb; cases hb), fun b => ?_⟩
    rw [h2, List.getD_eq_getElem?_getD, List.getElem?_replicate]
    split <;> exact Nat.zero_le _
  | j + 1, kn, bs, ⟨kn0, bs0, r, h1, h2, h3, h4⟩ => by
    obtain ⟨i1, i2⟩ := run_sizes hz hg hm h1
    have hK := Run.known hz hg h1
    have hr := List.mem_of_find?_eq_some h2
    have ht := txtL_same (xs := r.xs) i2 (hm r hr)
    obtain ⟨hv, hbits, hk0, hx0, hbk, hfi⟩ := tells_bit (hg r hr).1 (List.find?_some h2)
    have hroom := size_room hz
    subst h3 h4
    refine ⟨fun b hb => ?_, fun b => ?_⟩
    · rw [bit_setB _ _ _ _ (by rw [hK.len]; omega)] at hb
      rw [getD_set_tx]
      by_cases e : b = blkOf kn0 r
      · rw [if_pos ⟨e, by rw [hK.lenb]; exact hbk⟩]; exact ht
      · rw [if_neg e] at hb
        rw [if_neg (fun h => e h.1)]
        exact i1 b hb
    · rw [getD_set_tx]
      split
      · omega
      · exact i2 b
theorem peel_true {ss : List ByteArray} {rs : List RV} {m : Nat} {kn : List Nat} {bs : List ByteArray} (hP : PeelP (ss.length : Int) rs kn bs) (hg : Good rs) (hz : 0 < sizeOfK (ss.length : Int)) (hh : ∀ r ∈ rs, holdsB ss r.xs r.s = true) (hm : ∀ r ∈ rs, r.s.size = m) : ∀ x ∈ peelC (ss.length : Int) rs kn bs, TrueC ss m x := by
  intro x hx
  unfold peelC at hx
  obtain ⟨⟨j, hj⟩, hn⟩ := id hP
  obtain ⟨s1, s2⟩ := run_sizes hz hg hm hj
  have hK := Run.known hz hg hj
  rcases List.mem_append.1 hx with hx | hx
  · refine ⟨true_told hP hg hh x hx, ?_⟩
    obtain ⟨b, hb, hgb, rfl⟩ := told_mem hK hx
    exact s1 b hgb
  · refine ⟨true_rest hP hg hh x hx, ?_⟩
    unfold restL at hx
    obtain ⟨r, hr, rfl⟩ := List.mem_map.1 hx
    exact txtL_same s2 (hm r (List.mem_filter.1 hr).1)
/-- How many rows bring something anew, of those that are of k blocks. -/
def rankV (k : Int) (rs : List RV) : Nat := (basisL (vecsL (rs.filter fun r => validB k r.xs))).length
theorem fit_filter {rs : List RV} (hg : Good rs) (hl : ∀ r ∈ rs, r.xs.length ≤ 10) (q : RV → Bool) : Fit 1048576 (vecsL (rs.filter q)) := fun b hb => by
  obtain ⟨r, hm, rfl⟩ := List.mem_map.1 hb
  have hm := (List.mem_filter.1 hm).1
  exact ⟨(hg r hm).1, by have := hl r hm; omega⟩
theorem sol_true {ss : List ByteArray} {rs : List RV} {m : Nat} (hg : Good rs) (hl : ∀ r ∈ rs, r.xs.length ≤ 10) (hn : rs.length ≤ 300) (hz : 0 < sizeOfK (ss.length : Int)) (hh : ∀ r ∈ rs, holdsB ss r.xs r.s = true) (hm : ∀ r ∈ rs, r.s.size = m) (hms : ∀ b, b < ss.length → (ss.getD b ByteArray.empty).size = m) :
    okC (ss.length : Int) (validC (ss.length : Int) rs) = decide (rankV (ss.length : Int) rs = ss.length) ∧ solveC (ss.length : Int) (validC (ss.length : Int) rs) = if rankV (ss.length : Int) rs = ss.length then ss else [] := by
  have hv : vecsC (validC (ss.length : Int) rs) = vecsL (rs.filter fun r => validB (ss.length : Int) r.xs) := (vecsL_core _).symm
  have hf : FitC 1048576 (validC (ss.length : Int) rs) := by unfold FitC; rw [hv]; exact fit_filter hg hl _
  have hln : (validC (ss.length : Int) rs).length ≤ 100000 := by
    unfold validC
    rw [List.length_map]
    have := List.length_filter_le (fun r : RV => validB (ss.length : Int) r.xs) rs
    omega
  have hx : ∀ x ∈ validC (ss.length : Int) rs, ∃ r ∈ rs, validB (ss.length : Int) r.xs = true ∧ x = core r := fun x hx => by
    obtain ⟨r, hr, rfl⟩ := List.mem_map.1 hx
    exact ⟨r, (List.mem_filter.1 hr).1, (List.mem_filter.1 hr).2, rfl⟩
  obtain ⟨h1, h2, h3⟩ := solve_true (m := m) hz hf hln (fun x hx' => by obtain ⟨r, _, hr, rfl⟩ := hx x hx'; exact hr) (fun x hx' => by obtain ⟨r, hr, _, rfl⟩ := hx x hx'; exact ⟨hh r hr, hm r hr⟩) hms
  rw [hv] at h1 h2 h3
  refine ⟨h1, ?_⟩
  by_cases e : rankV (ss.length : Int) rs = ss.length
  · rw [if_pos e]; exact h2 e
  · rw [if_neg e]; exact h3 e
theorem dec_true {ss : List ByteArray} {rs : List RV} {m : Nat} {kn : List Nat} {bs : List ByteArray} (hP : PeelP (ss.length : Int) rs kn bs) (hg : Good rs) (hl : ∀ r ∈ rs, r.xs.length ≤ 10) (hn : rs.length ≤ 300) (hz : 0 < sizeOfK (ss.length : Int)) (hh : ∀ r ∈ rs, holdsB ss r.xs r.s = true) (hm : ∀ r ∈ rs, r.s.size = m) (hms : ∀ b, b < ss.length → (ss.getD b ByteArray.empty).size = m) :
    okC (ss.length : Int) (peelC (ss.length : Int) rs kn bs) = decide (rankV (ss.length : Int) rs = ss.length) ∧ solveC (ss.length : Int) (peelC (ss.length : Int) rs kn bs) = if rankV (ss.length : Int) rs = ss.length then ss else [] := by
  have hval := peel_valid hP hg
  have hz2 := sizeOfK_le (ss.length : Int)
  have hroom := size_room hz
  obtain ⟨j, hK⟩ := hP.kn hg hz
  have hf : FitC 1048576 (peelC (ss.length : Int) rs kn bs) := fun v hv => by
    obtain ⟨x, hx, rfl⟩ := List.mem_map.1 hv
    refine ⟨?_, by have := (valid_size (hval x hx)).2.1; omega⟩
    unfold peelC at hx
    rcases List.mem_append.1 hx with hx | hx
    · obtain ⟨b, hb, _, rfl⟩ := told_mem hK hx
      exact unit_small (by omega)
    · unfold restL at hx
      obtain ⟨r, hr, rfl⟩ := List.mem_map.1 hx
      exact dropL_small (hg r (List.mem_filter.1 hr).1).1 _
  have hln : (peelC (ss.length : Int) rs kn bs).length ≤ 100000 := by
    unfold peelC toldTo restL
    rw [List.length_append, List.length_map, List.length_map]
    have h1 := List.length_filter_le (fun b => getB kn b) (List.range (ss.length : Int).toNat)
    have h2 := List.length_filter_le (restB (ss.length : Int) kn) rs
    rw [List.length_range] at h1
    omega
  have hr : (basisL (vecsC (peelC (ss.length : Int) rs kn bs))).length = rankV (ss.length : Int) rs := rank_eq hf (fit_filter hg hl _) (peel_span hP hg)
  obtain ⟨h1, h2, h3⟩ := solve_true (m := m) hz hf hln hval (peel_true hP hg hz hh hm) hms
  rw [hr] at h1 h2 h3
  refine ⟨h1, ?_⟩
  by_cases e : rankV (ss.length : Int) rs = ss.length
  · rw [if_pos e]; exact h2 e
  · rw [if_neg e]; exact h3 e
end Go.Proofs.YtjppopabjfncpaaDoor
