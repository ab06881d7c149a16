/-
  What peeling leaves is of k blocks, and is true where the rows are. Contract of bucketlineref14.Decode.
-/
import Derived.Test.YtnkolioleljegaaDoorJH
namespace Go.Proofs.YtnkolioleljegaaDoor
open Go.RowKit Go.Sort
set_option linter.unusedVariables false
set_option maxRecDepth 4000

theorem unit_valid {k : Int} {b : Nat} (hs : 0 < sizeOfK k) (hb : (b : Int) < k) : validB k (unitL k (b : Int)) = true := by
  refine validB_iff.2 ⟨by rw [unit_len hb]; exact hs, unit_len hb, fun i hi => ?_⟩
  rw [unit_bit hs hb, decide_eq_false (by omega)]
theorem drop_valid {k : Int} {xs : List Nat} (kn : List Nat) (h : validB k xs = true) : validB k (dropL xs kn) = true := by
  obtain ⟨h1, h2, h3⟩ := validB_iff.1 h
  refine validB_iff.2 ⟨by rw [dropL_length]; exact h1, by rw [dropL_length]; exact h2, fun i hi => ?_⟩
  rw [dropL_bit, h3 i hi]; rfl
theorem peel_valid {k : Int} {rs : List RV} {kn : List Nat} {bs : List ByteArray} (hP : PeelP k rs kn bs) (hg : Good rs) : ∀ x ∈ peelC k rs kn bs, validB k x.1 = true := by
  intro x hx
  by_cases hz : sizeOfK k = 0
  · obtain ⟨p1, p2, p3⟩ := peelP_none (rs := rs) hz
    obtain ⟨rfl, rfl⟩ := hP.uniq p1
    unfold peelC at hx
    rw [p2, p3] at hx; cases hx
  · obtain ⟨j, hK⟩ := hP.kn hg (by omega)
    unfold peelC at hx
    rcases List.mem_append.1 hx with hx | hx
    · obtain ⟨b, hb, _, rfl⟩ := told_mem hK hx
      exact unit_valid hK.size (by omega)
    · unfold restL at hx
      obtain ⟨r, hr, rfl⟩ := List.mem_map.1 hx
      have := (List.mem_filter.1 hr).2
      unfold restB at this
      rw [Bool.and_eq_true, Bool.and_eq_true] at this
      exact drop_valid kn this.1.1
theorem valid_all_core {k : Int} {ts : List RV} {L : List (List Nat × ByteArray)} (h : ts.map core = L) (hv : ∀ x ∈ L, validB k x.1 = true) : validC k ts = L := by
  unfold validC
  have : (ts.filter fun r => validB k r.xs) = ts := List.filter_eq_self.2 fun r hr => hv (core r) (by rw [← h]; exact List.mem_map.2 ⟨r, hr, rfl⟩)
  rw [this]
  exact h

theorem ofL_small {ss : List ByteArray} {m : Nat} (h : ∀ i, (ss.getD i ByteArray.empty).size ≤ m) (vs : List Nat) : ∀ n, (ofL ss vs n).length ≤ m
  | 0 => by simp [ofL]
  | n + 1 => by
    unfold ofL
    split
    · rw [xorL_length, tx_length]
      have := ofL_small h vs n
      have := h n
      omega
    · exact ofL_small h vs n
theorem txtL_same {bs : List ByteArray} {xs : List Nat} {s : ByteArray} {m : Nat} (h : ∀ i, (bs.getD i ByteArray.empty).size ≤ m) (hs : s.size = m) : (txtL bs xs s).size = m := by
  unfold txtL
  rw [xorS_size, st_len, hs]
  have := ofL_small h xs bs.length
  omega
theorem run_sizes {k : Int} {rs : List RV} {m : Nat} (hz : 0 < sizeOfK k) (hg : Good rs) (hm : ∀ r ∈ rs, r.s.size = m) : ∀ {j : Nat} {kn : List Nat} {bs : List ByteArray}, Run k rs j kn bs → (∀ b, getB kn b = true → (bs.getD b ByteArray.empty).size = m) ∧ ∀ b, (bs.getD b ByteArray.empty).size ≤ m
  | 0, kn, bs, ⟨h1, h2⟩ => by
    refine ⟨(fun b hb => by rw [h1, bit_zeros] at hb; cases hb), fun b => ?_⟩
    rw [h2, List.getD_eq_getElem?_getD, List.getElem?_replicate]
    split <;> exact Nat.zero_le _
  | j + 1, kn, bs, ⟨kn0, bs0, r, h1, h2, h3, h4⟩ => by
    obtain ⟨i1, i2⟩ := run_sizes hz hg hm h1
    have hK := Run.known hz hg h1
    have hr := List.mem_of_find?_eq_some h2
    have ht := txtL_same (xs := r.xs) i2 (hm r hr)
    obtain ⟨hv, hbits, hk0, hx0, hbk, hfi⟩ := tells_bit (hg r hr).1 (List.find?_some h2)
    have hroom := size_room hz
    subst h3 h4
    refine ⟨fun b hb => ?_, fun b => ?_⟩
    · rw [bit_setB _ _ _ _ (by rw [hK.len]; omega)] at hb
      rw [getD_set_tx]
      by_cases e : b = blkOf kn0 r
      · rw [if_pos ⟨e, by rw [hK.lenb]; exact hbk⟩]; exact ht
      · rw [if_neg e] at hb
        rw [if_neg (fun h => e h.1)]
        exact i1 b hb
    · rw [getD_set_tx]
      split
      · omega
      · exact i2 b
theorem peel_true {ss : List ByteArray} {rs : List RV} {m : Nat} {kn : List Nat} {bs : List ByteArray} (hP : PeelP (ss.length : Int) rs kn bs) (hg : Good rs) (hz : 0 < sizeOfK (ss.length : Int)) (hh : ∀ r ∈ rs, holdsB ss r.xs r.s = true) (hm : ∀ r ∈ rs, r.s.size = m) : ∀ x ∈ peelC (ss.length : Int) rs kn bs, TrueC ss m x := by
  intro x hx
  unfold peelC at hx
  obtain ⟨⟨j, hj⟩, hn⟩ := id hP
  obtain ⟨s1, s2⟩ := run_sizes hz hg hm hj
  have hK := Run.known hz hg hj
  rcases List.mem_append.1 hx with hx | hx
  · refine ⟨true_told hP hg hh x hx, ?_⟩
    obtain ⟨b, hb, hgb, rfl⟩ := told_mem hK hx
    exact s1 b hgb
  · refine ⟨true_rest hP hg hh x hx, ?_⟩
    unfold restL at hx
    obtain ⟨r, hr, rfl⟩ := List.mem_map.1 hx
    exact txtL_same s2 (hm r (List.mem_filter.1 hr).1)

set_option maxHeartbeats 2000000 in
theorem rdecode_any (k : Int) (a : Option Addr) (n c : Nat) (rs : List RV) (kn : List Nat) (bs : List ByteArray) (hPP : PeelP k rs kn bs) (w : World) (h : RowsAt w a n rs) (hcap : CapR rs) (hs : shortR rs) (hn : n ≤ 300) :
    Calls Tryd.prog 16 #[.int .i64 k, .slice a n c] w fun e w' => ∃ a1 m1 c1, e = .returned (.tuple #[.slice a1 m1 c1, .bool (okC k (peelC k rs kn bs))]) ∧ OwnT w' w.heap.size (.slice a1 m1 c1) (solveC k (peelC k rs kn bs)) ∧ Below w.heap.size w w' := by
  have HP := hide (rpeel_any k a n c rs w h hs hcap (by omega))
  have HG := hide (good_of h hs)
  have HLN := hide (len_of h hs)
  have Hs := hide hs
  have HN := hide h.1
  have HVD := hide (peel_valid hPP (good_of h hs))
  clear h hs hcap
  go_enter Tryd.func16, Tryd.ntmps16
  go_wp2_with fail
  refine (unhide HP).mono ?_
  rintro e w1 ⟨a1, m1, c1, ts1, a2, m2, c2, ts2, rfl, hP⟩
  obtain ⟨s1, s2, l1, l2⟩ := hP.short (unhide HG) (unhide Hs) (unhide HLN)
  obtain ⟨kn', bs', p1, o1, i1, e1, o2, i2, e2, hb1⟩ := hP
  obtain ⟨rfl, rfl⟩ := hPP.uniq p1
  have hN := unhide HN
  have hE : (ts1 ++ ts2).map core = peelC k rs kn bs := by rw [List.map_append, e1, e2]; rfl
  have HVC := hide (valid_all_core hE (unhide HVD))
  have HO1 := hide o1
  have HO2 := hide o2
  have HI := hide (i1.append i2)
  have HSA := hide (short_append s1 s2)
  have hl1 : ts1.length ≤ 1048576 := by omega
  have hlA : ts1.length + ts2.length ≤ 1000 := by omega
  have HB1 := hide hb1
  obtain ⟨A, hA⟩ : ∃ A, A = ts1 ++ ts2 := ⟨_, rfl⟩
  rw [← hA] at HVC HI HSA
  have HAE := hide hA
  have HAL : A.length ≤ 1000 := by rw [hA, List.length_append]; exact hlA
  have HRS := hide (fun (a3 : Option Addr) (m3 c3 : Nat) (w3 : World) (ho : OwnS w3 w1.heap.size (.slice a3 m3 c3) A) (hi : RowsIn w3 A) => rsolve_any k a3 m3 c3 A w3 (ho.at' hi).1 (CapR.of hi) (unhide HSA) (by have := (ho.at' hi).2.1; omega))
  rw [unhide HVC] at HRS
  clear HP p1 o1 i1 e1 o2 i2 e2 hb1 s1 s2 l1 l2 hE hN hPP hA HVC HVD
  go_wp2_with (first | (at_builtin; refine wpList_appendS rfl (.const (.slice none 0 0)) (.tmp 15) rfl w1.heap.size w.heap.size (.slice none 0 0) (.slice a1 m1 c1) [] ts1 rfl rfl (OwnS.nil _ _) (Nat.le_refl _) (unhide HO1) (by simpa using hl1) ?_; intro v2 w2 ho2 hb2; rw [List.nil_append] at ho2; have HX2 := hide ho2; have HL2 := hide ((unhide HO2).below hb2); have HB2 := hide hb2; clear ho2 hb2) | (at_builtin; refine wpList_appendS rfl (.tmp 16) (.tmp 17) rfl w1.heap.size w.heap.size v2 (.slice a2 m2 c2) ts1 ts2 rfl rfl (unhide HX2) (unhide HB2).size (unhide HL2) (by omega) ?_; intro v3 w3 ho3 hb3; rw [← unhide HAE] at ho3; obtain ⟨a3, c3, rfl⟩ := ho3.shape; have hb13 := (unhide HB2).trans hb3; have HK3 := hide (unhide HRS a3 _ c3 w3 ho3 ((unhide HI).below hb13)); have HB3 := hide (below0 (unhide HB1) hb13); clear ho3 hb3 hb13) | (go_at_call 11; refine (unhide HK3).mono ?_; rintro e w4 ⟨a4, m4, c4, rfl, ho4, hb4⟩; have HO4 := hide (ho4.mono (unhide HB3).size); have HB4 := hide (below0 (unhide HB3) hb4); clear ho4 hb4))
  go_ret2
  exact ⟨_, _, _, rfl, unhide HO4, unhide HB4⟩
end Go.Proofs.YtnkolioleljegaaDoor
