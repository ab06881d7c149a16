/-
  The walk of PeelEnds: for every input it tells true and writes nothing that was there.
-/
import Derived.Test.YtcokmaofgfhapaaDoorM3
namespace Go.Proofs.YtcokmaofgfhapaaDoor
open Go.RowKit Go.Sort
set_option linter.unusedVariables false
set_option maxRecDepth 4000

theorem mem_core' {ts : List RV} {L : List (List Nat × ByteArray)} (h : ts.map core = L) {i : Nat} (hi : i < ts.length) : ((ts.getD i .dflt).xs, (ts.getD i .dflt).s) ∈ L := by
  rw [← h, List.getD_eq_getElem?_getD, List.getElem?_eq_getElem hi]
  exact List.mem_map.2 ⟨_, List.getElem_mem hi, rfl⟩
/-- What the known ones are, at the end. -/
structure EndK (kn : List Nat) (ts : List RV) : Prop where
  one : ∀ i, i < ts.length → ∃ b : Nat, firstI (ts.getD i .dflt).xs = (b : Int) ∧ b ≤ 127 ∧ cnt (ts.getD i .dflt).xs = 1 ∧ getB kn b = true
  rise : ∀ i, i + 1 < ts.length → firstI (ts.getD i .dflt).xs < firstI (ts.getD (i + 1) .dflt).xs
  bits : ∀ i, kbit ts i = getB kn i
theorem told_rise {k : Int} {j : Nat} {kn : List Nat} {bs : List ByteArray} (hK : Kn k j kn bs) {i : Nat} (hi : i + 1 < (toldTo k kn bs k.toNat).length) : firstI ((toldTo k kn bs k.toNat).getD i ([], ByteArray.empty)).1 < firstI ((toldTo k kn bs k.toNat).getD (i + 1) ([], ByteArray.empty)).1 := by
  have hroom := size_room hK.size
  have hp : ((List.range k.toNat).filter fun b => getB kn b).Pairwise (· < ·) := List.pairwise_lt_range.filter _
  unfold toldTo at hi ⊢
  rw [List.length_map] at hi
  obtain ⟨I, hI⟩ : ∃ I, I = (List.range k.toNat).filter fun b => getB kn b := ⟨_, rfl⟩
  rw [← hI] at hi hp ⊢
  have hm : ∀ b ∈ I, b < k.toNat := fun b hb => by rw [hI, List.mem_filter, List.mem_range] at hb; exact hb.1
  have hlt := List.pairwise_iff_getElem.1 hp i (i + 1) (by omega) hi (by omega)
  have h1 := hm _ (List.getElem_mem (show i < I.length by omega))
  have h2 := hm _ (List.getElem_mem hi)
  rw [List.getD_eq_getElem?_getD, List.getElem?_map, List.getElem?_eq_getElem (show i < I.length by omega), List.getD_eq_getElem?_getD, List.getElem?_map, List.getElem?_eq_getElem hi]
  simp only [Option.map_some, Option.getD_some]
  rw [firstI_one (unit_small (by omega)) (unit_bit hK.size (by omega)), firstI_one (unit_small (by omega)) (unit_bit hK.size (by omega))]
  omega
theorem end_known {k : Int} {j : Nat} {kn : List Nat} {bs : List ByteArray} {ts : List RV} (hK : Kn k j kn bs) (h : ts.map core = toldTo k kn bs k.toNat) : EndK kn ts := by
  have hroom := size_room hK.size
  have hl : ts.length = (toldTo k kn bs k.toNat).length := by rw [← h, List.length_map]
  refine ⟨fun i hi => ?_, fun i hi => ?_, fun i => ?_⟩
  · obtain ⟨b, hb, hg, e⟩ := told_mem hK (mem_core' h hi)
    have e1 : (ts.getD i .dflt).xs = unitL k (b : Int) := congrArg Prod.fst e
    have hu := unit_bit hK.size (b := b) (by omega)
    exact ⟨b, by rw [e1]; exact firstI_one (unit_small (by omega)) hu, by omega, by rw [e1]; exact cnt_one.2 ⟨b, hu⟩, hg⟩
  · have := told_rise hK (i := i) (by omega)
    rw [core_at h (by omega), core_at h hi] at this
    exact this
  · rw [kbit_core, h]
    cases hg : getB kn i
    · rw [← Bool.not_eq_true, List.any_eq_true]
      rintro ⟨x, hx, hb⟩
      obtain ⟨b, hb1, hg1, rfl⟩ := told_mem hK hx
      rw [Bool.and_eq_true, unit_bit hK.size (by omega)] at hb
      have := of_decide_eq_true hb.2
      rw [this, hg1] at hg
      cases hg
    · rw [List.any_eq_true]
      have hik := hK.below i hg
      have hu := unit_bit hK.size (b := i) (by omega)
      refine ⟨(unitL k (i : Int), bs.getD i ByteArray.empty), ?_, ?_⟩
      · unfold toldTo
        exact List.mem_map.2 ⟨i, List.mem_filter.2 ⟨List.mem_range.2 hik, hg⟩, rfl⟩
      · show (decide (cnt (unitL k (i : Int)) = 1) && getB (unitL k (i : Int)) i) = true
        rw [decide_eq_true (cnt_one.2 ⟨i, hu⟩), hu]; simp
/-- What is left, at the end. -/
def EndL (kn : List Nat) (ts : List RV) : Prop := ∀ i, i < ts.length → 2 ≤ cnt (ts.getD i .dflt).xs ∧ ∀ b, getB kn b = true → getB (ts.getD i .dflt).xs b = false
theorem end_left {k : Int} {rs : List RV} {kn : List Nat} {bs : List ByteArray} {ts : List RV} (h : ts.map core = restL k rs kn bs) : EndL kn ts := fun i hi => by
  have hm := mem_core' h hi
  unfold restL at hm
  rw [List.mem_map] at hm
  obtain ⟨r, hr, e⟩ := hm
  have e1 : (ts.getD i .dflt).xs = dropL r.xs kn := (congrArg Prod.fst e).symm
  have hq := (List.mem_filter.1 hr).2
  unfold restB at hq
  rw [Bool.and_eq_true, Bool.and_eq_true] at hq
  have h0 : ¬ cnt (dropL r.xs kn) = 0 := by simpa using hq.1.2
  have h1 : ¬ cnt (dropL r.xs kn) = 1 := by simpa using hq.2
  refine ⟨by rw [e1]; omega, fun b hb => ?_⟩
  rw [e1, dropL_bit, hb]
  simp
theorem ripTo_nil {u : List Nat} {vs : List RV} {m : Nat} (h : ∀ i, i < m → ¬ cnt (dropL (vs.getD i .dflt).xs u) = 1) : ripTo u vs m = [] := by
  unfold ripTo
  rw [List.filter_eq_nil_iff.2 (fun i hi => by rw [decide_eq_false (h i (List.mem_range.1 hi))]; simp)]
  rfl
/-- All of it. -/
theorem PeelR.ends {w w' : World} {k : Int} {rs : List RV} {a1 : Option Addr} {m1 c1 : Nat} {ts1 : List RV} {a2 : Option Addr} {m2 c2 : Nat} {ts2 : List RV} (h : PeelR w w' k rs a1 m1 c1 ts1 a2 m2 c2 ts2) (hg : Good rs) :
    ∃ kn, EndK kn ts1 ∧ EndL kn ts2 ∧ ∀ u, (∀ i, getB u i = kbit ts1 i) → ripTo u (rs.filter fun r => validB k r.xs) (rs.filter fun r => validB k r.xs).length = [] := by
  obtain ⟨kn, bs, hP, o1, i1, e1, o2, i2, e2, hb⟩ := h
  by_cases hz : sizeOfK k = 0
  · obtain ⟨p1, p2, p3⟩ := peelP_none (rs := rs) hz
    obtain ⟨rfl, rfl⟩ := hP.uniq p1
    rw [p2] at e1
    rw [p3] at e2
    rw [List.map_eq_nil_iff] at e1 e2
    subst e1 e2
    refine ⟨[], ⟨fun i hi => by simp at hi, fun i hi => by simp at hi, fun i => by rw [getB_nil]; rfl⟩, fun i hi => by simp at hi, fun u hu => ?_⟩
    have : (rs.filter fun r => validB k r.xs) = [] := List.filter_eq_nil_iff.2 fun r _ hv => by have := (valid_size hv).1; omega
    rw [this]; rfl
  · obtain ⟨j, hK⟩ := hP.kn hg (by omega)
    have hE := end_known hK e1
    refine ⟨kn, hE, end_left e2, fun u hu => ripTo_nil fun i hi => ?_⟩
    have hm := List.getElem_mem hi
    rw [List.mem_filter] at hm
    have hno := List.find?_eq_none.1 hP.2 _ hm.1
    rw [List.getD_eq_getElem?_getD, List.getElem?_eq_getElem hi, Option.getD_some]
    unfold tellsB at hno
    rw [hm.2, Bool.true_and, decide_eq_true_eq] at hno
    rw [cnt_congr (b := dropL ((rs.filter fun r => validB k r.xs)[i]).xs kn) fun j => by rw [dropL_bit, dropL_bit, hu, hE.bits]]
    exact hno

set_option maxHeartbeats 4000000 in
theorem ends_walk (k : Int) (a : Option Addr) (n c : Nat) (rs : List RV) (w : World) (ht : Tab w) (h : RowsAt w a n rs) (hn : n ≤ 9223372036854775807) (hcap : CapR rs) (hbig : ∀ i, (rs.getD i .dflt).n ≤ 9223372036854775807 ∧ (rs.getD i .dflt).s.size ≤ 9223372036854775807) :
    Calls Tryd.prog 6 #[.int .i64 k, .slice a n c] w fun e w' => e = .returned (.bool true) ∧ Below w.heap.size w w' := by
  have Hh := hide h
  have HC := hide hcap
  have HT := hide ht
  have HF := hide (fewR_any a n c rs w h hn hbig)
  have HNL := hide h.1
  have HAW := hide (fun (w1 : World) (hb : Below w.heap.size w w1) => awake_any w1 (ht.below hb))
  clear h ht hbig hcap
  go_enter Tryd.func6, Tryd.ntmps6
  go_wp2_with fail
  refine (unhide HF).mono ?_
  rintro e w0 ⟨hf, hw⟩
  obtain rfl := hw.symm
  clear hw HF
  rcases hf with ⟨rfl, hf⟩ | ⟨rfl, hf⟩
  rotate_left
  · clear hf
    go_wp2_with (go_at_call 9; refine (unhide HAW _ (Below.refl _ _)).mono ?_; rintro e w1 ⟨rfl, hb1⟩)
    go_ret
    exact ⟨rfl, hb1⟩
  by_cases h1 : 100 < n
  · have hd : decide ((100 : Int) < (n : Int)) = true := by rw [decide_eq_true_iff]; omega
    clear hf
    go_wp2_with (go_at_call 9; refine (unhide HAW _ (Below.refl _ _)).mono ?_; rintro e w1 ⟨rfl, hb1⟩)
    go_ret
    exact ⟨rfl, hb1⟩
  have hd : decide ((100 : Int) < (n : Int)) = false := by rw [decide_eq_false_iff_not]; omega
  have hs := hf.2
  have HG := hide (good_of (unhide Hh) hs)
  have HLN := hide (len_of (unhide Hh) hs)
  have Hs := hide hs
  have HPE := hide (peel_any k a n c rs w (unhide HT) (unhide Hh) hs (by omega))
  clear hf hs
  go_wp2_with (first | (go_at_call 10; refine (unhide HPE).mono ?_; rintro e w1 ⟨a1, m1, c1, ts1, a2, m2, c2, ts2, rfl, hP⟩; have HP := hide hP; clear hP HPE))
  obtain ⟨kn, hEK, hEL, hRIP⟩ := (unhide HP).ends (unhide HG)
  obtain ⟨s1, s2, l1, l2⟩ := (unhide HP).short (unhide HG) (unhide Hs) (unhide HLN)
  have HEK := hide hEK
  have HEL := hide hEL
  have HRIP := hide hRIP
  have HS1 := hide s1
  have HS2 := hide s2
  obtain ⟨kn', bs, p1, o1, i1, e1, o2, i2, e2, hb1⟩ := unhide HP
  obtain ⟨R1, q1, -, -⟩ := o1.at' i1
  obtain ⟨R2, q2, -, -⟩ := o2.at' i2
  have HR1 := hide R1
  have HR2 := hide R2
  have hm1 : m1 ≤ 128 := by omega
  have hm2 : m2 ≤ 1048576 := by have := unhide HNL; omega
  have HQ1 := hide q1
  have HQ2 := hide q2
  have HB1 := hide hb1
  clear p1 o1 o2 i1 i2 e1 e2 hb1 s1 s2 l1 l2 R1 R2 q1 q2 HP hEK hEL hRIP
  go_loop [7] (fun i => ∃ m : Nat, m ≤ m1 ∧ i = .int .i64 m) (fun i => m1 - (intOf i).toNat)
  case atStart => exact ⟨0, Nat.zero_le _, rfl⟩
  case round =>
    obtain ⟨m, hm, rfl⟩ := hrel
    by_cases hlt : m < m1
    · obtain ⟨b, off, rfl, hcl⟩ := (unhide HR1).at hlt
      obtain ⟨hc0, hc1⟩ := hcl m hlt
      have hrow := (unhide HR1).2.1 m hlt
      have hsh := unhide HS1 m
      have hlt' : (m : Int) < (m1 : Int) := by omega
      obtain ⟨bt, hfi, hbt, hcn, hgk⟩ := (unhide HEK).one m (by have := unhide HQ1; omega)
      have HPV := hide (fun (q : Nat) (hq : m = q + 1) => show ∃ fq : Int, w1.cell? ⟨b, off + q * 2, none⟩ = some (.slice (ts1.getD q .dflt).a (ts1.getD q .dflt).n (ts1.getD q .dflt).c) ∧ (Calls Tryd.prog 17 #[.slice (ts1.getD q .dflt).a (ts1.getD q .dflt).n (ts1.getD q .dflt).c] w1 fun e w' => e = .returned (.int .i64 fq) ∧ w' = w1) ∧ fq < (bt : Int) from by
        refine ⟨firstI (ts1.getD q .dflt).xs, (hcl q (by omega)).1, rfirst_any _ _ _ _ _ ((unhide HR1).2.1 q (by omega)) (by have := (unhide HS1 q).1; omega), ?_⟩
        have := (unhide HEK).rise q (by have := unhide HQ1; omega)
        rw [← hq, hfi] at this
        exact this)
      generalize ts1.getD m .dflt = r at *
      have HFI := rfirst_any r.a r.n r.c r.xs w1 hrow (by omega)
      have HCN := rcount_any r.a r.n r.c r.xs w1 hrow (by omega)
      rw [hfi] at HFI
      rw [hcn] at HCN
      have HFI := hide HFI
      have HCN := hide HCN
      have HGK := hide hgk
      clear hcl hrow hfi hcn hgk
      cases m with
      | zero =>
        clear HPV
        rw [Nat.zero_mul, Nat.add_zero] at hc0 hc1
        go_wp2_with (first | (go_at_call 17; refine (unhide HFI).mono ?_; rintro e w9 ⟨rfl, hw9⟩; obtain rfl := hw9.symm; clear hw9) | (go_at_call 18; refine (unhide HCN).mono ?_; rintro e w9 ⟨rfl, hw9⟩; obtain rfl := hw9.symm; clear hw9))
        go_loop [9] (fun i => ∃ q : Nat, q ≤ m2 ∧ i = .int .i64 q) (fun i => m2 - (intOf i).toNat)
        case atStart => exact ⟨0, Nat.zero_le _, rfl⟩
        case round =>
          obtain ⟨q, hq, rfl⟩ := hrel
          by_cases hql : q < m2
          · obtain ⟨b2, off2, rfl, hcl2⟩ := (unhide HR2).at hql
            obtain ⟨hd0, hd1⟩ := hcl2 q hql
            have hql' : (q : Int) < (m2 : Int) := by omega
            have HGT := rgetN_any (ts2.getD q .dflt).a (ts2.getD q .dflt).n (ts2.getD q .dflt).c (ts2.getD q .dflt).xs bt w1 ((unhide HR2).2.1 q hql) (by have := (unhide HS2 q).1; omega) (by omega)
            rw [((unhide HEL) q (by have := unhide HQ2; omega)).2 bt (unhide HGK)] at HGT
            have HGT := hide HGT
            generalize ts2.getD q .dflt = r2 at *
            clear hcl2
            go_wp2_with (first | (go_at_call 19; refine (unhide HGT).mono ?_; rintro e w9 ⟨rfl, hw9⟩; obtain rfl := hw9.symm; clear hw9))
            go_round
            case rel => exact ⟨q + 1, by omega, by go_num⟩
            case measure => simp [intOf]; omega
          · have hql' : ¬ (q : Int) < (m2 : Int) := by omega
            go_wp2
            go_round
            case rel => exact ⟨0 + 1, by omega, by go_num⟩
            case measure => simp [intOf]; omega
      | succ q0 =>
        obtain ⟨fq, hcq, hFq, hfq⟩ := unhide HPV q0 rfl
        have HFQ := hide hFq
        have hdq : decide ((bt : Int) ≤ fq) = false := by rw [decide_eq_false_iff_not]; omega
        have hdp : decide ((0 : Int) < (q0 : Int) + 1) = true := by rw [decide_eq_true_iff]; omega
        have hkI : (q0 : Int) + 1 < (m1 : Int) := by omega
        have hkJ : (q0 : Int) < (m1 : Int) := by omega
        generalize ts1.getD q0 .dflt = rq at *
        clear HPV hFq hfq
        have HF1 : Hid True := hide trivial
        go_wp2_with (first | (go_at_call 17; clear HF1; refine (unhide HFI).mono ?_; rintro e w9 ⟨rfl, hw9⟩; obtain rfl := hw9.symm; clear hw9) | (go_at_call 17; refine (unhide HFQ).mono ?_; rintro e w9 ⟨rfl, hw9⟩; obtain rfl := hw9.symm; clear hw9) | (go_at_call 18; refine (unhide HCN).mono ?_; rintro e w9 ⟨rfl, hw9⟩; obtain rfl := hw9.symm; clear hw9))
        go_loop [9] (fun i => ∃ q : Nat, q ≤ m2 ∧ i = .int .i64 q) (fun i => m2 - (intOf i).toNat)
        case atStart => exact ⟨0, Nat.zero_le _, rfl⟩
        case round =>
          obtain ⟨q, hq, rfl⟩ := hrel
          by_cases hql : q < m2
          · obtain ⟨b2, off2, rfl, hcl2⟩ := (unhide HR2).at hql
            obtain ⟨hd0, hd1⟩ := hcl2 q hql
            have hql' : (q : Int) < (m2 : Int) := by omega
            have HGT := rgetN_any (ts2.getD q .dflt).a (ts2.getD q .dflt).n (ts2.getD q .dflt).c (ts2.getD q .dflt).xs bt w1 ((unhide HR2).2.1 q hql) (by have := (unhide HS2 q).1; omega) (by omega)
            rw [((unhide HEL) q (by have := unhide HQ2; omega)).2 bt (unhide HGK)] at HGT
            have HGT := hide HGT
            generalize ts2.getD q .dflt = r2 at *
            clear hcl2
            go_wp2_with (first | (go_at_call 19; refine (unhide HGT).mono ?_; rintro e w9 ⟨rfl, hw9⟩; obtain rfl := hw9.symm; clear hw9))
            go_round
            case rel => exact ⟨q + 1, by omega, by go_num⟩
            case measure => simp [intOf]; omega
          · have hql' : ¬ (q : Int) < (m2 : Int) := by omega
            go_wp2
            go_round
            case rel => exact ⟨q0 + 1 + 1, by omega, by go_num⟩
            case measure => simp [intOf]; omega
    · have hlt' : ¬ (m : Int) < (m1 : Int) := by omega
      go_wp2
      go_loop [10] (fun i => ∃ q : Nat, q ≤ m2 ∧ i = .int .i64 q) (fun i => m2 - (intOf i).toNat)
      case atStart => exact ⟨0, Nat.zero_le _, rfl⟩
      case round =>
        obtain ⟨q, hq, rfl⟩ := hrel
        by_cases hql : q < m2
        · obtain ⟨b2, off2, rfl, hcl2⟩ := (unhide HR2).at hql
          obtain ⟨hd0, hd1⟩ := hcl2 q hql
          have hql' : (q : Int) < (m2 : Int) := by omega
          have HCT := hide (rcount_any (ts2.getD q .dflt).a (ts2.getD q .dflt).n (ts2.getD q .dflt).c (ts2.getD q .dflt).xs w1 ((unhide HR2).2.1 q hql) (by have := (unhide HS2 q).1; omega))
          have h2c := ((unhide HEL) q (by have := unhide HQ2; omega)).1
          have hdc : decide (((cnt (ts2.getD q .dflt).xs : Nat) : Int) < 2) = false := by rw [decide_eq_false_iff_not]; omega
          generalize ts2.getD q .dflt = r2 at *
          generalize cnt r2.xs = cr at *
          clear hcl2
          go_wp2_with (first | (go_at_call 18; refine (unhide HCT).mono ?_; rintro e w9 ⟨rfl, hw9⟩; obtain rfl := hw9.symm; clear hw9))
          go_round
          case rel => exact ⟨q + 1, by omega, by go_num⟩
          case measure => simp [intOf]; omega
        · have hql' : ¬ (q : Int) < (m2 : Int) := by omega
          have HVL := hide (rvalids_any k a n c rs w1 ((unhide Hh).below (unhide HB1)) (unhide HC) (by omega))
          have HVS := hide (fun (w2 : World) (av : Option Addr) (mv cv : Nat) hG => VsAt.of (w1 := w2) (av := av) (mv := mv) (cv := cv) (k := k) ((unhide Hh).below (unhide HB1)) (unhide Hs) hG)
          have hvl : (rs.filter fun r => validB k r.xs).length ≤ 1048576 := by
            have h1 := List.length_filter_le (fun r : RV => validB k r.xs) rs
            have := unhide HNL
            omega
          generalize (rs.filter fun r => validB k r.xs) = vs at *
          go_wp2_with (first | (go_at_call 20; refine (unhide HVL).mono ?_; rintro e w2 ⟨av, mv, cv, rfl, hGv⟩; have hV := unhide HVS w2 av mv cv hGv; have hmv : mv = vs.length := hV.rows.1.symm; have HRP := hide (ripple_any a1 m1 c1 ts1 av mv cv vs w2 ((unhide HT).below (below0 (unhide HB1) hGv.2.2.2.2)) ((unhide HR1).below hGv.2.2.2.2) (unhide HS1) (by omega) hV.rows hV.short (by omega)); have HB2 := hide (below0 (unhide HB1) hGv.2.2.2.2); have HMV := hide hmv; clear hV hGv hmv) | (go_at_call 14; refine (unhide HRP).mono ?_; rintro e w3 ⟨v3, u3, rfl, o3, hu3, hb3⟩; rw [unhide HMV, unhide HRIP u3 hu3] at o3; obtain ⟨a3, c3, rfl, _⟩ := o3.ints; have HB3 := hide (below0 (unhide HB2) hb3); clear o3 hu3 hb3) | (go_at_call 9; refine (unhide HAW _ (unhide HB3)).mono ?_; rintro e w4 ⟨rfl, hb4⟩; have HB4 := hide (below0 (unhide HB3) hb4); clear hb4))
          go_ret
          exact ⟨rfl, unhide HB4⟩
end Go.Proofs.YtcokmaofgfhapaaDoor
