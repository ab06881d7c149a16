/-
  Contracts of bucketlineref01.Ints, bucketlineref03.In, bucketlineref04.Keep, Fresh: for rows of at most 2^20 words.
-/
import Derived.Test.YtobelbmcbgfdhaaDoorKA
namespace Go.Proofs.YtobelbmcbgfdhaaDoor
open Go.RowKit Go.Sort
set_option linter.unusedVariables false

set_option maxHeartbeats 1000000 in
theorem ints_any (a : Option Addr) (n c : Nat) (xs : List Nat) (a' : Option Addr) (m c' : Nat) (ys : List Nat) (w : World) (h : IntsAt w a n xs) (h' : IntsAt w a' m ys) (he : xs = ys) (hn : n ≤ 1048576) :
    Calls Tryd.prog 10 #[.slice a n c, .slice a' m c'] w fun e w' => e = .returned (.bool true) ∧ Below w.heap.size w w' := by
  subst he
  obtain rfl : n = xs.length := h.1.symm
  obtain rfl : m = xs.length := h'.1.symm
  go_enter Tryd.func10, Tryd.ntmps10
  go_wp2
  go_loopw [5] (fun i wr => ∃ k : Nat, k ≤ xs.length ∧ i = .int .i64 k ∧ Hid (Below w.heap.size w wr)) (fun i _ => xs.length - (intOf i).toNat)
  case atStart => exact ⟨0, Nat.zero_le _, rfl, hide (Below.refl _ _)⟩
  case round =>
    obtain ⟨k, hk, rfl, HB⟩ := hrel
    have hB := unhide HB
    by_cases hlt : k < xs.length
    · obtain ⟨b, off, rfl, hc⟩ := (h.below hB).at hlt
      have hcell := hc k hlt
      obtain ⟨b2, off2, rfl, hc2⟩ := (h'.below hB).at hlt
      have hcell2 := hc2 k hlt
      clear hc hc2 h h'
      generalize xs.getD k 0 = x at *
      go_wp2_with fail
      go_quiet (fail)
      go_wp2
      go_roundw
      case rel => exact ⟨k + 1, by omega, by go_num, hide (below_drewN (unhide HB) _)⟩
      case measure => simp [intOf]; omega
    · clear h h'
      go_wp2
      go_ret
      exact ⟨rfl, unhide HB⟩

theorem cnt_first {r : List Nat} (hr : smalls r) : (cnt r = 0) ↔ firstI r < 0 := by
  rw [firstI_nonneg_iff]
  exact ⟨zero_of_cnt r hr, cnt_of_zero r⟩
theorem cnt_first_dec {r : List Nat} (hr : smalls r) : (((cnt r : Nat) : Int) == 0) = decide (firstI r < 0) := by
  by_cases h : firstI r < 0
  · rw [(cnt_first hr).2 h, decide_eq_true h]; rfl
  · rw [decide_eq_false h]
    have := fun e => h ((cnt_first hr).1 e)
    simpa using this
set_option maxHeartbeats 400000 in
theorem rin_any (a : Option Addr) (n c : Nat) (rs : List (List Nat)) (a' : Option Addr) (m c' : Nat) (xs : List Nat) (w : World) (h : VecsAt w a n rs) (hf : Fit 1048576 rs) (h' : RowAt w a' m xs) (hn : n ≤ 1048576) (hm : m ≤ 1048576) :
    Calls Tryd.prog 25 #[.slice a n c, .slice a' m c'] w fun e w' => e = .returned (.bool (decide (firstI (reduceL rs xs) < 0))) ∧ Below w.heap.size w w' := by
  have HR := hide (rreduce_any a n c rs a' m c' xs w h hf h' hn hm)
  have hl := reduce_small hf h'.2.1 (by rw [h'.1]; exact hm)
  have HD := hide (cnt_first_dec hl.1)
  clear h h' hf
  generalize reduceL rs xs = r at *
  generalize hbo : decide (firstI r < 0) = bo at *
  have hcd := unhide HD
  clear HD hbo
  have HC := hide (fun (w1 : World) (ar : Option Addr) (cr : Nat) (hr : RowAt w1 ar r.length r) => rcount_any ar r.length cr r w1 hr hl.2)
  generalize cnt r = cn at *
  go_enter Tryd.func25, Tryd.ntmps25
  go_wp2_with fail
  refine (unhide HR).mono ?_
  rintro e w1 ⟨v, rfl, ho, hb⟩
  obtain ⟨a1, c1, rfl, hr⟩ := ho.row
  have HC1 := hide (unhide HC w1 a1 c1 hr)
  clear ho hr HR HC
  go_wp2_with fail
  refine (unhide HC1).mono ?_
  rintro e w2 ⟨rfl, hw⟩
  obtain rfl := hw.symm
  go_wp2
  go_ret
  exact ⟨rfl, hb⟩

theorem rkeep_step (rs : List (List Nat)) (k : Nat) : (firstI (reduceL (basisL (rs.take k)) (rs.getD k [])) < 0 → rkeepL rs (k + 1) = rkeepL rs k) ∧ (0 ≤ firstI (reduceL (basisL (rs.take k)) (rs.getD k [])) → rkeepL rs (k + 1) = rkeepL rs k ++ [k]) := by
  simp only [rkeepL]
  constructor
  · intro h; rw [if_pos h]
  · intro h; rw [if_neg (by omega)]
theorem rkeep_len (rs : List (List Nat)) : ∀ k, (rkeepL rs k).length ≤ k
  | 0 => Nat.le_refl _
  | k + 1 => by
    have := rkeep_len rs k
    simp only [rkeepL]
    split
    · omega
    · simp; omega
set_option maxHeartbeats 2000000 in
theorem rkeep_any (a : Option Addr) (n c : Nat) (rs : List (List Nat)) (w : World) (h : VecsAt w a n rs) (hf : Fit 1048576 rs) (hn : n ≤ 100000) :
    Calls Tryd.prog 12 #[.slice a n c] w fun e w' => ∃ v, e = .returned v ∧ OwnI w' w.heap.size v (keepL rs rs.length) ∧ Below w.heap.size w w' := by
  obtain rfl : n = rs.length := h.1.symm
  rw [← keep_eq hf]
  go_enter Tryd.func12, Tryd.ntmps12
  go_wp2
  go_loopw [3, 4, 5] (fun bv kv i wr => ∃ k : Nat, k ≤ rs.length ∧ i = .int .i64 k ∧ ∃ a1 c1 vs ak ck, bv = .slice a1 (basisL (rs.take k)).length c1 ∧ kv = .slice ak (rkeepL rs k).length ck ∧ Hid (OwnV wr w.heap.size (.slice a1 (basisL (rs.take k)).length c1) vs (basisL (rs.take k))) ∧
    Hid (OwnI wr w.heap.size (.slice ak (rkeepL rs k).length ck) (rkeepL rs k)) ∧ Hid (Below w.heap.size w wr)) (fun _ _ i _ => rs.length - (intOf i).toNat)
  case atStart => exact ⟨0, Nat.zero_le _, rfl, none, 0, [], none, 0, rfl, rfl, hide (OwnV.nil _ _), hide (OwnI.nil _ _), hide (Below.refl _ _)⟩
  case round =>
    obtain ⟨k, hk, rfl, a1, c1, vs, ak, ck, rfl, rfl, HV, HI, HB⟩ := hrel
    by_cases hlt : k < rs.length
    · have hB := unhide HB
      obtain ⟨b, off, rfl, hc⟩ := (h.below hB).at hlt
      obtain ⟨ai, ci, hcell, hrow⟩ := hc k hlt
      have hfk := hf.take k
      have hbl := basis_len hfk
      have htk : (rs.take k).length ≤ k := List.length_take_le _ _
      have hkl := rkeep_len rs k
      obtain ⟨_, _, e1, hvec⟩ := (unhide HV).vecs
      simp only [Value.slice.injEq, true_and] at e1
      obtain ⟨rfl, rfl⟩ := e1
      have hX := radd_any a1 _ c1 (basisL (rs.take k)) ai _ ci (rs.getD k []) wr hvec (basis_fit hfk) hrow (by omega) (hf.getD k).2
      rw [radd_eq (basis_fit hfk) (basis_red hfk) hrow.2.1 (hf.getD k).2, ← basis_take hlt] at hX
      have HX := hide hX
      obtain ⟨hs1, hs2⟩ := rkeep_step rs k
      have HS1 := hide hs1
      have HS2 := hide hs2
      clear hc hrow h hfk hX hvec hs1 hs2
      generalize rs.getD k [] = y at *
      generalize basisL (rs.take k) = bk at *
      generalize rkeepL rs k = kk at *
      generalize firstI (reduceL bk y) = f at *
      have hkk : kk.length ≤ 1048576 := by omega
      by_cases hneg : f < 0
      · have hk1 := unhide HS1 hneg
        have hdn : decide (0 ≤ f) = false := by rw [decide_eq_false_iff_not]; omega
        rw [hdn] at HX
        have HK1 := hide hk1
        clear hneg hk1 HS1 HS2 hdn
        go_wp2_with fail
        refine (unhide HX).mono ?_
        rintro e w1 ⟨v1, vs1, rfl, hV1, hb1⟩
        have hI1 := (unhide HI).below hb1
        have hV1 := hV1.mono hB.size
        obtain ⟨a2, c2, rfl⟩ := hV1.shape
        rw [← unhide HK1]
        rw [← unhide HK1] at hI1
        have HV1 := hide hV1
        have HI1 := hide hI1
        have HB1 := hide (below0 hB hb1)
        clear hV1 hI1 hb1 HX hB HB HI HV HK1
        go_wp2
        go_roundw
        case rel => exact ⟨k + 1, by omega, by go_num, a2, c2, vs1, ak, ck, rfl, rfl, HV1, HI1, HB1⟩
        case measure => simp [intOf]; omega
      · have hk1 := unhide HS2 (by omega)
        have hdn : decide (0 ≤ f) = true := by rw [decide_eq_true_iff]; omega
        rw [hdn] at HX
        have HK1 := hide hk1
        clear hneg hk1 HS1 HS2 hdn
        go_wp2_with fail
        refine (unhide HX).mono ?_
        rintro e w1 ⟨v1, vs1, rfl, hV1, hb1⟩
        have HI1 := hide ((unhide HI).below hb1)
        have hV1 := hV1.mono hB.size
        obtain ⟨a2, c2, rfl⟩ := hV1.shape
        have HV1 := hide hV1
        have HB1 := hide (below0 hB hb1)
        clear hV1 hb1 HX hB HB HI HV
        go_wp2_with (first | (at_builtin; refine wpList_pushI rfl _ _ rfl w.heap.size (.slice ak kk.length ck) kk k rfl rfl (unhide HI1) (unhide HB1).size hkk ?_; intro s4 w4 hI4 hg4; have HV4 := hide ((unhide HV1).keptI (unhide HI1) hg4); have HB4 := hide ((unhide HB1).trans ((unhide HI1).grown hg4 (unhide HB1).size)); rw [← unhide HK1] at hI4; obtain ⟨a4, c4, rfl, _⟩ := hI4.ints; have HI4 := hide hI4; clear hg4 hI4 HI1 HB1 HV1 HK1))
        go_roundw
        case rel => exact ⟨k + 1, by omega, by go_num, a2, c2, vs1, a4, c4, rfl, rfl, HV4, HI4, HB4⟩
        case measure => simp [intOf]; omega
    · obtain rfl : k = rs.length := by omega
      clear h
      go_wp2
      go_ret
      exact ⟨_, rfl, unhide HI, unhide HB⟩

set_option maxHeartbeats 400000 in
theorem rfresh_any (a : Option Addr) (n c : Nat) (rs : List (List Nat)) (a' : Option Addr) (m c' : Nat) (xs : List Nat) (w : World) (h : VecsAt w a n rs) (hf : Fit 1048576 rs) (h' : RowAt w a' m xs) (hn : n ≤ 100000) (hm : m ≤ 1048576) :
    Calls Tryd.prog 14 #[.slice a n c, .slice a' m c'] w fun e w' => e = .returned (.bool (freshB rs xs)) ∧ Below w.heap.size w w' := by
  have HX := hide (rbasis_any a n c rs w h hf hn)
  have hbf := basis_fit hf
  have hbl := basis_len hf
  have hrl := h.1
  have hE : freshB rs xs = !decide (firstI (reduceL (basisL rs) xs) < 0) := by
    unfold freshB
    have h1 := brought_in hf h'.2.1 (by rw [h'.1]; exact hm)
    have h2 := basis_in_iff hf h'.2.1 (by rw [h'.1]; exact hm)
    rw [decide_eq_decide.2 (h1.trans h2.symm)]
  rw [hE]
  clear h hf hE
  have HY := hide (fun (w1 : World) (a1 : Option Addr) (c1 : Nat) (hb : Below w.heap.size w w1) (hv : VecsAt w1 a1 (basisL rs).length (basisL rs)) => rin_any a1 _ c1 (basisL rs) a' m c' xs w1 hv hbf (h'.below hb) (by omega) hm)
  generalize basisL rs = bb at *
  generalize decide (firstI (reduceL bb xs) < 0) = bo at *
  clear h'
  go_enter Tryd.func14, Tryd.ntmps14
  go_wp2_with fail
  refine (unhide HX).mono ?_
  rintro e w1 ⟨vb, vs, rfl, hV, hb⟩
  obtain ⟨a2, c2, rfl, hvec⟩ := hV.vecs
  have HY1 := hide (unhide HY w1 a2 c2 hb hvec)
  have HB := hide hb
  clear hV hb HX HY hvec
  go_wp2_with fail
  refine (unhide HY1).mono ?_
  rintro e w2 ⟨rfl, hb2⟩
  go_wp2
  go_ret
  exact ⟨rfl, below0 (unhide HB) hb2⟩
end Go.Proofs.YtobelbmcbgfdhaaDoor
