/-
  Contracts of bucketlineref07.sizes, Check, and of bucketlinelaw07.few: for every packet.
  Contracts of packet.plainOf, Same and of bucketlineref07.Alike, Same: for every two packets of rows of at most 2^20 words.
  Contracts of bucketlineref07.Alike and Same: for every two packets of rows of at most 2^20 words.
  Contract of bucketlineref14.Solve.
-/
import Derived.Test.YtnjdldbdkafnaaaGreatDoorU36
import Derived.Laws.StructEq
import Derived.Test.YtnjdldbdkafnaaaGreatDoorU32
import Derived.Test.YtnjdldbdkafnaaaGreatDoorU4
import Derived.Deep.QuietTactic
import Derived.BigQuiet
namespace Go.Proofs.YtnjdldbdkafnaaaGreatDoor
open Go.RowKit
set_option linter.unusedVariables false
set_option linter.unusedSimpArgs false
set_option maxRecDepth 4000

set_option maxHeartbeats 400000 in
theorem rsizes_any (k z : Int) (w : World) (b : Bool) (hb : TB b (shapedP k z)) :
    Calls Tryz.prog 36 #[.int .i64 k, .int .i64 z] w fun e w' => e = .returned (.bool b) ∧ w' = w := by
  have HB := hide hb
  clear hb
  by_cases h1 : 1 ≤ k
  · by_cases h2 : k ≤ 128
    · by_cases h3 : 1 ≤ z
      · by_cases h4 : z ≤ 64
        · go_enter Tryz.func36, Tryz.ntmps36
          go_wp2
          go_ret
          exact ⟨ret_bool ((unhide HB).yes ⟨⟨h1, h2⟩, h3, h4⟩).symm, rfl⟩
        · go_enter Tryz.func36, Tryz.ntmps36
          go_wp2
          go_ret
          exact ⟨ret_bool ((unhide HB).no (fun h => by have := h.2.2; omega)).symm, rfl⟩
      · go_enter Tryz.func36, Tryz.ntmps36
        go_wp2
        go_ret
        exact ⟨ret_bool ((unhide HB).no (fun h => by have := h.2.1; omega)).symm, rfl⟩
    · go_enter Tryz.func36, Tryz.ntmps36
      go_wp2
      go_ret
      exact ⟨ret_bool ((unhide HB).no (fun h => by have := h.1.2; omega)).symm, rfl⟩
  · go_enter Tryz.func36, Tryz.ntmps36
    go_wp2
    go_ret
    exact ⟨ret_bool ((unhide HB).no (fun h => by have := h.1.1; omega)).symm, rfl⟩

set_option maxHeartbeats 2000000 in
theorem rcheck_any (o l k z h : Int) (a : Option Addr) (n c : Nat) (xs : List Nat) (s : ByteArray) (w : World) (hr : RowAt w a n xs) (en : Nat) (hen : CkP en (CheckP o l k z h xs s.size)) :
    Calls Tryz.prog 19 #[.agg #[.int .i64 o, .int .i64 l, .int .i64 k, .int .i64 z, .int .i64 h, .slice a n c, .string s]] w fun e w' => e = .returned (.int .i64 ((en : Nat) : Int)) ∧ Below w.heap.size w w' := by
  have HE := hide hen
  obtain ⟨b1, h1⟩ := tb_ex (shapedP k z)
  have H1 := hide h1
  have HL := hide hr.1
  have HR := hide (row_alloc hr (.cells #[.int .i64 o, .int .i64 l, .int .i64 k, .int .i64 z, .int .i64 h, .slice a n c, .string s] 31))
  have B0 := hide (below_new w (.cells #[.int .i64 o, .int .i64 l, .int .i64 k, .int .i64 z, .int .i64 h, .slice a n c, .string s] 31))
  clear hen hr h1
  by_cases c1 : 0 ≤ o
  case neg =>
    go_enter Tryz.func19, Tryz.ntmps19
    go_wp2
    go_ret
    exact ⟨ret_int (by rw [(unhide HE).no (fun h => by have := h.1.2.1.1; omega)]; rfl), unhide B0⟩
  by_cases c2 : o ≤ 4294967295
  case neg =>
    go_enter Tryz.func19, Tryz.ntmps19
    go_wp2
    go_ret
    exact ⟨ret_int (by rw [(unhide HE).no (fun h => by have := h.1.2.1.2; omega)]; rfl), unhide B0⟩
  go_enter Tryz.func19, Tryz.ntmps19
  go_wp2_with fail
  refine (rsizes_any k z _ b1 (unhide H1)).mono ?_
  rintro e w' ⟨rfl, hw⟩
  obtain rfl := hw.symm
  clear hw
  cases b1
  · go_wp2
    go_ret
    exact ⟨ret_int (by rw [(unhide HE).no (fun h => by simpa using (unhide H1).2 h.1.1)]; rfl), unhide B0⟩
  · have HW := hide (show wrap64 (k * z) = k * z by have hm := mul_le ((unhide H1).1 rfl); unfold wrap64; omega)
    by_cases c4 : 0 ≤ h
    case neg =>
      go_wp2
      go_ret
      exact ⟨ret_int (by rw [(unhide HE).no (fun h => by have := h.1.2.2.2.1; omega)]; rfl), unhide B0⟩
    by_cases c5 : h ≤ 15
    case neg =>
      go_wp2
      go_ret
      exact ⟨ret_int (by rw [(unhide HE).no (fun h => by have := h.1.2.2.2.2; omega)]; rfl), unhide B0⟩
    by_cases c6 : l < 0
    case pos =>
      go_wp2
      go_ret
      exact ⟨ret_int (by rw [(unhide HE).no (fun h => by have := h.1.2.2.1.1; omega)]; rfl), unhide B0⟩
    by_cases c7 : wrap64 (k * z) < l
    case pos =>
      go_wp2
      go_ret
      exact ⟨ret_int (by rw [(unhide HE).no (fun h => by have := h.1.2.2.1.2; have := unhide HW; omega)]; rfl), unhide B0⟩
    have HL7 := hide (show 0 ≤ l ∧ l ≤ k * z by have := unhide HW; omega)
    have HBP := hide (show boundP o l k z h from ⟨(unhide H1).1 rfl, ⟨c1, c2⟩, unhide HL7, c4, c5⟩)
    go_wp2_with fail
    refine (rvalid_any a n c xs k _ (unhide HR)).mono ?_
    rintro e w1 ⟨⟨b2, rfl, hb2⟩, hw⟩
    obtain rfl := hw.symm
    clear hw
    have H2 := hide hb2
    clear hb2
    cases b2
    · go_wp2
      go_ret
      exact ⟨ret_int (by rw [(unhide HE).no (fun h => by simpa using (unhide H2).2 h.2.1)]; rfl), unhide B0⟩
    · have hv := (unhide H2).1 rfl
      have hn : n ≤ 1048576 := by have := valid_len hv; have := unhide HL; omega
      have HC := hide (rcount_any a n c xs _ (unhide HR) hn)
      have HV := hide hv
      clear hv hn
      rcases Nat.eq_zero_or_pos (cnt xs) with hc | hc
      · rw [hc] at HC
        have HZ := hide hc
        clear hc
        go_wp2_with fail
        refine (unhide HC).mono ?_
        rintro e w' ⟨rfl, hw⟩
        obtain rfl := hw.symm
        clear hw
        go_wp2
        go_ret
        exact ⟨ret_int (by rw [(unhide HE).no (fun h => by have := h.2.2.1; have := unhide HZ; omega)]; rfl), unhide B0⟩
      · have HZ := hide hc
        have hc' : (((cnt xs : Nat) : Int) == 0) = false := by rw [beq_eq_false_iff_ne]; omega
        generalize ((cnt xs : Nat) : Int) = m at *
        clear hc
        by_cases hz : (s.size : Int) = z
        · have hz' : ((s.size : Int) != z) = false := by rw [hz]; simp
          have HQ := hide hz
          clear hz
          go_wp2_with fail
          refine (unhide HC).mono ?_
          rintro e w' ⟨rfl, hw⟩
          obtain rfl := hw.symm
          clear hw
          go_wp2
          go_ret
          exact ⟨ret_int (by rw [(unhide HE).yes ⟨unhide HBP, unhide HV, unhide HZ, unhide HQ⟩]; rfl), unhide B0⟩
        · have hz' : ((s.size : Int) != z) = true := by rw [bne_iff_ne]; exact hz
          have HQ := hide hz
          clear hz
          go_wp2_with fail
          refine (unhide HC).mono ?_
          rintro e w' ⟨rfl, hw⟩
          obtain rfl := hw.symm
          clear hw
          go_wp2
          go_ret
          exact ⟨ret_int (by rw [(unhide HE).no (fun h => unhide HQ h.2.2.2)]; rfl), unhide B0⟩

end Go.Proofs.YtnjdldbdkafnaaaGreatDoor
namespace Go.Proofs.YtnjdldbdkafnaaaGreatDoor
open Go.RowKit Go.Sort
set_option linter.unusedVariables false
set_option linter.unusedSimpArgs false
set_option maxRecDepth 4000

theorem below2' (w : World) (o o' : Obj) : Below w.heap.size w ((w.alloc o).alloc o') := ((Below.refl _ _).alloc (Nat.le_refl _) _).alloc (by simp) _

end Go.Proofs.YtnjdldbdkafnaaaGreatDoor
namespace Go.Proofs.YtnjdldbdkafnaaaGreatDoor
open Go.RowKit
set_option linter.unusedVariables false
set_option linter.unusedSimpArgs false
set_option maxRecDepth 4000

set_option maxHeartbeats 1000000 in
theorem ralike_any (o l k z h : Int) (a : Option Addr) (n c : Nat) (s : ByteArray) (o' l' k' z' h' : Int) (a' : Option Addr) (m c' : Nat) (t : ByteArray) (w : World) (b : Bool) (hb : TB b (o = o' ∧ l = l' ∧ k = k' ∧ z = z')) :
    Calls Tryz.prog 20 #[.agg #[.int .i64 o, .int .i64 l, .int .i64 k, .int .i64 z, .int .i64 h, .slice a n c, .string s], .agg #[.int .i64 o', .int .i64 l', .int .i64 k', .int .i64 z', .int .i64 h', .slice a' m c', .string t]] w fun e w' => e = .returned (.bool b) ∧ Below w.heap.size w w' := by
  have HB := hide hb
  clear hb
  have B0 := hide (below2' w (.cells #[.int .i64 o, .int .i64 l, .int .i64 k, .int .i64 z, .int .i64 h, .slice a n c, .string s] 31) (.cells #[.int .i64 o', .int .i64 l', .int .i64 k', .int .i64 z', .int .i64 h', .slice a' m c', .string t] 31))
  have x1 := (pk_new w (.int .i64 o) (.int .i64 l) (.int .i64 k) (.int .i64 z) (.int .i64 h) (.slice a n c) (.string s)).alloc (.cells #[.int .i64 o', .int .i64 l', .int .i64 k', .int .i64 z', .int .i64 h', .slice a' m c', .string t] 31)
  have x2 := pk_new (w.alloc (.cells #[.int .i64 o, .int .i64 l, .int .i64 k, .int .i64 z, .int .i64 h, .slice a n c, .string s] 31)) (.int .i64 o') (.int .i64 l') (.int .i64 k') (.int .i64 z') (.int .i64 h') (.slice a' m c') (.string t)
  rw [alloc_size] at x2
  obtain ⟨x10, x11, x12, x13, x14, x15, x16⟩ := x1
  obtain ⟨x20, x21, x22, x23, x24, x25, x26⟩ := x2
  by_cases h1 : o = o'
  case neg =>
    have e1 : (o == o') = false := beq_eq_false_iff_ne.2 h1
    have E1 := hide h1
    clear h1
    go_enter Tryz.func20, Tryz.ntmps20
    go_wp2
    go_ret
    exact ⟨ret_bool ((unhide HB).no (fun h => unhide E1 h.1)).symm, unhide B0⟩
  have e1 : (o == o') = true := beq_iff_eq.2 h1
  have E1 := hide h1
  clear h1
  by_cases h2 : l = l'
  case neg =>
    have e2 : (l == l') = false := beq_eq_false_iff_ne.2 h2
    have E2 := hide h2
    clear h2
    go_enter Tryz.func20, Tryz.ntmps20
    go_wp2
    go_ret
    exact ⟨ret_bool ((unhide HB).no (fun h => unhide E2 h.2.1)).symm, unhide B0⟩
  have e2 : (l == l') = true := beq_iff_eq.2 h2
  have E2 := hide h2
  clear h2
  by_cases h3 : k = k'
  case neg =>
    have e3 : (k == k') = false := beq_eq_false_iff_ne.2 h3
    have E3 := hide h3
    clear h3
    go_enter Tryz.func20, Tryz.ntmps20
    go_wp2
    go_ret
    exact ⟨ret_bool ((unhide HB).no (fun h => unhide E3 h.2.2.1)).symm, unhide B0⟩
  have e3 : (k == k') = true := beq_iff_eq.2 h3
  have E3 := hide h3
  clear h3
  by_cases h4 : z = z'
  case neg =>
    have e4 : (z == z') = false := beq_eq_false_iff_ne.2 h4
    have E4 := hide h4
    clear h4
    go_enter Tryz.func20, Tryz.ntmps20
    go_wp2
    go_ret
    exact ⟨ret_bool ((unhide HB).no (fun h => unhide E4 h.2.2.2)).symm, unhide B0⟩
  have e4 : (z == z') = true := beq_iff_eq.2 h4
  have E4 := hide h4
  clear h4
  go_enter Tryz.func20, Tryz.ntmps20
  go_wp2
  go_ret
  exact ⟨ret_bool ((unhide HB).yes ⟨unhide E1, unhide E2, unhide E3, unhide E4⟩).symm, unhide B0⟩

end Go.Proofs.YtnjdldbdkafnaaaGreatDoor
namespace Go.Proofs.YtnjdldbdkafnaaaGreatDoor
open Go.RowKit Go.Sort
set_option linter.unusedVariables false
set_option linter.unusedSimpArgs false
set_option maxRecDepth 4000

theorem atR_take (ts : List RV) (ps : List Nat) (k : Nat) (hk : k < ps.length) : atR ts (ps.take k) ++ [ts.getD (ps.getD k 0) .dflt] = atR ts (ps.take (k + 1)) := by
  unfold atR
  rw [List.take_succ_eq_append_getElem hk, List.map_append, List.getD_eq_getElem?_getD (l := ps), List.getElem?_eq_getElem hk]
  rfl
theorem sum_textsR (us : List RV) (k : Nat) (hk : k < us.length) : st (sumL ((textsR us).take (k + 1))) = xorS (st (sumL ((textsR us).take k))) (us.getD k .dflt).s := by
  rw [xorS_st (sumL_bytes _), sumL_take _ _ (by rw [textsR_len]; exact hk), textsR_get us k hk]
theorem fit1000_of {w : World} {ts : List RV} (hr : RowsIn w ts) (hs : shortR ts) : Fit 1000 (vecsL ts) := fun b hb => by
  obtain ⟨r, hm, rfl⟩ := List.mem_map.1 hb
  obtain ⟨i, hi, rfl⟩ := List.mem_iff_getElem.1 hm
  have h1 := hr _ (List.getElem_mem hi)
  have h2 := hs i
  rw [List.getD_eq_getElem?_getD, List.getElem?_eq_getElem hi] at h2
  simp only [Option.getD_some] at h2
  exact ⟨h1.1.2.1, by rw [h1.1.1]; omega⟩
theorem range_take (k : Int) (L : List (List Nat × ByteArray)) (j : Nat) : (List.range j).map (blockC k L) ++ [blockC k L j] = (List.range (j + 1)).map (blockC k L) := by rw [List.range_succ, List.map_append]; rfl

set_option maxHeartbeats 4000000 in
theorem rsolve_any (k : Int) (a : Option Addr) (n c : Nat) (rs : List RV) (w : World) (h : RowsAt w a n rs) (hcap : CapR rs) (hs : shortR rs) (hn : n ≤ 1000) :
    Calls Tryz.prog 44 #[.int .i64 k, .slice a n c] w fun e w' => ∃ a1 m1 c1, e = .returned (.tuple #[.slice a1 m1 c1, .bool (okC k (validC k rs))]) ∧ OwnT w' w.heap.size (.slice a1 m1 c1) (solveC k (validC k rs)) ∧ Below w.heap.size w w' := by
  have HVL := hide (rvalids_any k a n c rs w h hcap (by omega))
  have hvs := short_filter hs (fun r => validB k r.xs)
  have HVS := hide hvs
  have hvl : (rs.filter fun r => validB k r.xs).length ≤ 1000 := by
    have h1 := List.length_filter_le (fun r : RV => validB k r.xs) rs
    have := h.1
    omega
  have hVC : validC k rs = (rs.filter fun r => validB k r.xs).map core := rfl
  have HZ := hide (rsize_any k)
  rw [hVC]
  clear h hcap hs hvs hVC
  generalize (rs.filter fun r => validB k r.xs) = vs at *
  obtain ⟨L, hL⟩ : ∃ L, L = vs.map core := ⟨_, rfl⟩
  rw [← hL]
  have HL := hide hL
  clear hL
  go_enter Tryz.func44, Tryz.ntmps44
  go_wp2_with fail
  refine (unhide HVL).mono ?_
  rintro e w1 ⟨a1, m1, c1, rfl, o1, i1, -, -, hb1⟩
  have hR1 := o1.at' i1
  have hm1 := hR1.2.1
  have HR1 := hide hR1.1
  have HI1 := hide i1
  have HB1 := hide hb1
  have HFT := hide (fit_of i1 (unhide HVS))
  clear HVL hR1 o1 i1 hb1
  subst hm1
  by_cases hz : sizeOfK k = 0
  · have hok : okC k L = false := by unfold okC; rw [hz]; rfl
    have hso : solveC k L = [] := by unfold solveC; rw [hok]; rfl
    rw [hz] at HZ
    have HOK := hide (And.intro hok hso)
    clear hok hso
    go_wp2_with (go_at_call 54; refine (unhide HZ _).mono ?_; rintro e w' ⟨rfl, hw'⟩; obtain rfl := hw'.symm; clear hw')
    go_ret2
    rw [(unhide HOK).1, (unhide HOK).2]
    exact ⟨none, 0, 0, rfl, OwnT.nil _ _, unhide HB1⟩
  have HSZ := hide (show 0 < sizeOfK k by omega)
  obtain ⟨h1k, hk128⟩ := (size_room (k := k) (by omega)).2
  obtain ⟨K, rfl⟩ : ∃ K : Nat, k = (K : Int) := ⟨k.toNat, (Int.toNat_of_nonneg (by omega)).symm⟩
  have hlen : (keptR vs).length = (basisL (vecsL vs)).length := by rw [keptR_len, ← vecsL_len]; exact keep_rank (unhide HFT)
  have HOK := hide (show okC (K : Int) L = decide ((K : Int) ≤ ((keptR vs).length : Int)) by
    unfold okC
    rw [decide_eq_true (unhide HSZ), Bool.true_and, keptR_len, vecsL_core, unhide HL, List.length_map])
  have HRK := hide (rgrank_any a1 vs.length c1 vs w1 (unhide HR1) (unhide HI1) (unhide HVS) (by omega))
  rw [← hlen] at HRK
  obtain ⟨z, hze⟩ : ∃ z, sizeOfK (K : Int) = z := ⟨_, rfl⟩
  rw [hze] at HZ hz
  have hzne : ((z : Int) == 0) = false := by rw [beq_eq_false_iff_ne]; omega
  clear hze hlen
  obtain ⟨NK, hNK⟩ : ∃ NK, NK = (keptR vs).length := ⟨_, rfl⟩
  rw [← hNK] at HRK HOK
  by_cases hlt : NK < K
  · have hok : okC (K : Int) L = false := by rw [unhide HOK, decide_eq_false_iff_not]; omega
    have hso : solveC (K : Int) L = [] := by unfold solveC; rw [hok]; rfl
    have hd : decide ((NK : Int) < (K : Int)) = true := by rw [decide_eq_true_iff]; omega
    have HOK := hide (And.intro hok hso)
    clear hok hso hNK
    go_wp2_with (first | (go_at_call 54; refine (unhide HZ _).mono ?_; rintro e w' ⟨rfl, hw'⟩; obtain rfl := hw'.symm; clear hw') | (go_at_call 17; refine (unhide HRK).mono ?_; rintro e w2 ⟨rfl, hb2⟩; have HB2 := hide (below0 (unhide HB1) hb2); clear hb2))
    go_ret2
    rw [(unhide HOK).1, (unhide HOK).2]
    exact ⟨none, 0, 0, rfl, OwnT.nil _ _, unhide HB2⟩
  have hok : okC (K : Int) L = true := by rw [unhide HOK, decide_eq_true_iff]; omega
  have hso : solveC (K : Int) L = (List.range K).map (blockC (K : Int) L) := by unfold solveC; rw [hok, if_pos rfl, Int.toNat_natCast]
  have hd : decide ((NK : Int) < (K : Int)) = false := by rw [decide_eq_false_iff_not]; omega
  have HOKS := hide (And.intro hok hso)
  clear hok hso HOK
  have HVC := hide (fun (w2 : World) (hb : Below w1.heap.size w1 w2) => rvecs_any a1 vs.length c1 vs w2 ((unhide HR1).below hb) (by omega))
  have HKP := hide (fun (w3 : World) (a3 : Option Addr) (c3 : Nat) (hv : VecsAt w3 a3 vs.length (vecsL vs)) => rkeep_any a3 vs.length c3 (vecsL vs) w3 hv (unhide HFT) (by omega))
  rw [vecsL_len] at HKP
  obtain ⟨ps, hps⟩ : ∃ ps, ps = keepL (vecsL vs) vs.length := ⟨_, rfl⟩
  have hkr : keptR vs = atR vs ps := by rw [hps]; rfl
  rw [← hps] at HKP
  have hpn : ps.length = NK := by rw [hNK, hkr, atR_len]
  have hpl : ps.length ≤ vs.length := by rw [hps]; exact keep_len _ _
  have HPL := hide (show ∀ i ∈ ps, i < vs.length by rw [hps]; exact keep_in vs)
  have HKR := hide hkr
  have HTX := hide (fun b => block_text K vs b)
  rw [← unhide HL, hkr] at HTX
  clear hNK hps hkr
  go_wp2_with (first | (go_at_call 54; refine (unhide HZ _).mono ?_; rintro e w' ⟨rfl, hw'⟩; obtain rfl := hw'.symm; clear hw') | (go_at_call 17; refine (unhide HRK).mono ?_; rintro e w2 ⟨rfl, hb2⟩; have HB2 := hide hb2; have HV2 := hide (unhide HVC w2 hb2); clear hb2) | (go_at_call 34; refine (unhide HV2).mono ?_; rintro e w3 ⟨v3, rfl, ho3, hb3⟩; obtain ⟨a3, c3, rfl, hv3⟩ := ho3.vecs ((unhide HI1).below (below0 (unhide HB2) hb3)); have HK3 := hide (unhide HKP w3 a3 c3 hv3); have HB3 := hide (below0 (unhide HB2) hb3); clear ho3 hb3 hv3) | (go_at_call 58; refine (unhide HK3).mono ?_; rintro e w4 ⟨v4, rfl, ho4, hb4⟩; obtain ⟨a4, c4, rfl, hi4⟩ := ho4.ints; have HP4 := hide hi4; have HB4 := hide (below0 (unhide HB3) hb4); clear ho4 hb4 hi4))
  have HR4 := hide ((unhide HR1).below (unhide HB4))
  have HI4 := hide ((unhide HI1).below (unhide HB4))
  have HBW := hide (below0 (unhide HB1) (unhide HB4))
  clear HR1 HI1 HB1 HB4 HVC HKP HRK HZ HFT
  go_loopw [7, 8] (fun o i wr => ∃ m : Nat, ∃ a5 : Option Addr, ∃ m5 c5 : Nat, m ≤ ps.length ∧ i = .int .i64 m ∧ o = .slice a5 m5 c5 ∧ Hid (OwnS wr w4.heap.size (.slice a5 m5 c5) (atR vs (ps.take m))) ∧ Hid (Below w4.heap.size w4 wr)) (fun _ i _ => ps.length - (intOf i).toNat)
  case atStart => exact ⟨0, none, 0, 0, Nat.zero_le _, rfl, rfl, hide (OwnS.nil _ _), hide (Below.refl _ _)⟩
  case round =>
    obtain ⟨m, a5, m5, c5, hm, rfl, rfl, HO, HB⟩ := hrel
    by_cases hlt2 : m < ps.length
    · obtain ⟨bp, offp, rfl, hclp⟩ := ((unhide HP4).below (unhide HB)).at hlt2
      have hcp := hclp m hlt2
      have hpl2 : ps.getD m 0 < vs.length := unhide HPL _ (by rw [List.getD_eq_getElem?_getD, List.getElem?_eq_getElem hlt2]; exact List.getElem_mem hlt2)
      obtain ⟨b, off, rfl, hcl⟩ := ((unhide HR4).below (unhide HB)).at hpl2
      obtain ⟨hc0, hc1⟩ := hcl _ hpl2
      have hlt' : (m : Int) < (ps.length : Int) := by omega
      have HE := hide (atR_take vs ps m hlt2)
      have htl : (atR vs (ps.take m)).length ≤ 1048576 := by rw [atR_len]; have := List.length_take_le m ps; omega
      generalize ps.getD m 0 = p at *
      have hpl' : (p : Int) < (vs.length : Int) := by omega
      generalize vs.getD p .dflt = r at *
      obtain ⟨us, hus⟩ : ∃ us, us = atR vs (ps.take m) := ⟨_, rfl⟩
      rw [← hus] at HO HE htl
      clear hcl hclp hus
      go_wp2_with (at_builtin; refine wpList_pushS rfl (.tmp 36) (.tmp 44) rfl w4.heap.size (.slice a5 m5 c5) us r rfl rfl (unhide HO) (unhide HB).size htl ?_; intro v6 w6 ho6 hg6 hb6; obtain ⟨a6, m6, c6, rfl⟩ : ∃ a6 m6 c6, v6 = Value.slice a6 m6 c6 := (by obtain ⟨a, c, e⟩ := ho6.shape; exact ⟨a, _, c, e⟩); have HO6 := hide ho6; have HB6 := hide ((unhide HB).trans hb6); clear ho6 hg6 hb6)
      go_roundw
      case rel => exact ⟨m + 1, a6, m6, c6, by omega, by go_num, rfl, hide (by rw [← unhide HE]; exact unhide HO6), HB6⟩
      case measure => simp [intOf]; omega
    · have hke : ps.take m = ps := List.take_of_length_le (by omega)
      rw [hke] at HO
      have hlt' : ¬ (m : Int) < (ps.length : Int) := by omega
      obtain ⟨ks, hks⟩ : ∃ ks, ks = atR vs ps := ⟨_, rfl⟩
      have hkl : ks.length = NK := by rw [hks, atR_len, hpn]
      have hki : RowsIn wr ks := by rw [hks]; exact ((unhide HI4).below (unhide HB)).atR (unhide HPL)
      have hksh : shortR ks := by rw [hks]; exact short_atR (unhide HVS) ps
      rw [← hks] at HO HTX
      obtain ⟨hR5, hm5, -, -⟩ := (unhide HO).at' hki
      rw [hkl] at hm5
      subst hm5
      have HR5 := hide hR5
      have HI5 := hide hki
      have HS5 := hide hksh
      have HF5 := hide (fit1000_of hki hksh)
      have HB5 := hide (below0 (unhide HBW) (unhide HB))
      have HKL := hide hkl
      have hmk : m5 ≤ 1000 := by omega
      obtain ⟨wo, hwo⟩ : ∃ wo, wo = wr := ⟨wr, rfl⟩
      rw [← hwo] at HR5 HI5 HB5 ⊢
      clear hks hki hksh hR5 HO HB HBW HI4 HR4 HP4 HPL HKR hke hkl hwo wr HL HVS
      go_wp2
      go_loopw [9, 10] (fun o i wr => ∃ j : Nat, ∃ a6 : Option Addr, ∃ m6 c6 : Nat, j ≤ K ∧ i = .int .i64 j ∧ o = .slice a6 m6 c6 ∧ Hid (OwnT wr wo.heap.size (.slice a6 m6 c6) ((List.range j).map (blockC (K : Int) L))) ∧ Hid (Below wo.heap.size wo wr)) (fun _ i _ => K - (intOf i).toNat)
      case atStart => exact ⟨0, none, 0, 0, Nat.zero_le _, rfl, rfl, hide (OwnT.nil _ _), hide (Below.refl _ _)⟩
      case round =>
        obtain ⟨j, a6, m6, c6, hj, rfl, rfl, HO, HB⟩ := hrel
        by_cases hlt3 : j < K
        · have hlt3' : (j : Int) < (K : Int) := by omega
          have hB := unhide HB
          have HV6 := hide (rvecs_any a5 m5 c5 ks wr ((unhide HR5).below hB) (by omega))
          have HU := hide (fun (w7 : World) => runit_any (K : Int) (j : Int) w7 (by omega))
          have hvl6 : (vecsL ks).length = m5 := by rw [vecsL_len, unhide HKL]
          have HEX := hide (fun (w8 : World) (a7 : Option Addr) (c7 : Nat) (a8 : Option Addr) (m8 c8 : Nat) (h7 : VecsAt w8 a7 m5 (vecsL ks)) (h8 : RowAt w8 a8 m8 (unitL (K : Int) (j : Int))) (hm8 : m8 ≤ 1000) => rexpress_any a7 m5 c7 (vecsL ks) a8 m8 c8 (unitL (K : Int) (j : Int)) w8 h7 (unhide HF5) h8 (by omega) hm8)
          have hes := ex_sub (vecsL ks) (unitL (K : Int) (j : Int))
          rw [hvl6] at hes
          have hul : (unitL (K : Int) (j : Int)).length ≤ 1000 := by rw [unit_len hlt3']; have := sizeOfK_le (K : Int); omega
          obtain ⟨PS, hPS⟩ : ∃ PS, PS = exL (vecsL ks) (unitL (K : Int) (j : Int)) := ⟨_, rfl⟩
          have htx := unhide HTX j
          rw [← hPS] at htx hes HEX
          have HES := hide hes
          have HTJ := hide htx
          have HRT := hide (range_take (K : Int) L j)
          have hrl : ((List.range j).map (blockC (K : Int) L)).length ≤ 1048576 := by simp; omega
          generalize (List.range j).map (blockC (K : Int) L) = SJ at *
          generalize blockC (K : Int) L j = TX at *
          generalize unitL (K : Int) (j : Int) = UU at *
          clear hB hes htx hvl6 hPS
          go_wp2_with (first | (go_at_call 34; refine (unhide HV6).mono ?_; rintro e w7 ⟨v7, rfl, ho7, hb7⟩; obtain ⟨a7, c7, rfl, hv7⟩ := ho7.vecs ((unhide HI5).below (below0 (unhide HB) hb7)); rw [unhide HKL] at hv7 ⊢; have HV7 := hide hv7; have HB7 := hide hb7; have HU7 := hide (unhide HU w7); clear ho7 hb7 hv7) | (go_at_call 60; refine (unhide HU7).mono ?_; rintro e w8 ⟨v8, rfl, ho8, hb8⟩; obtain ⟨a8, c8, rfl, hr8⟩ := ho8.row; have HE8 := hide (unhide HEX w8 a7 c7 a8 _ c8 ((unhide HV7).below hb8) hr8 hul); have HB8 := hide (below0 (unhide HB7) hb8); clear ho8 hb8 hr8) | (go_at_call 59; refine (unhide HE8).mono ?_; rintro e w9 ⟨v9, rfl, ho9, hb9⟩; obtain ⟨a9, c9, rfl, hi9⟩ := ho9.ints; have HP9 := hide hi9; have HB9 := hide (below0 (unhide HB8) hb9); clear ho9 hb9 hi9))
          have HR9 := hide ((unhide HR5).below (below0 (unhide HB) (unhide HB9)))
          have HO9 := hide ((unhide HO).below (unhide HB9))
          have HB10 := hide (below0 (unhide HB) (unhide HB9))
          have hpl9 : PS.length ≤ 1000 := by have := (unhide HES).2; omega
          clear HB HO HB9 HEX HU HV6
          go_loopw [13, 14] (fun s i wr => ∃ q : Nat, q ≤ PS.length ∧ i = .int .i64 q ∧ s = .string (st (sumL ((textsR (atR ks PS)).take q))) ∧ Hid (Below w9.heap.size w9 wr)) (fun _ i _ => PS.length - (intOf i).toNat)
          case atStart => exact ⟨0, Nat.zero_le _, rfl, rfl, hide (Below.refl _ _)⟩
          case round =>
            obtain ⟨q, hq, rfl, rfl, HB⟩ := hrel
            have hul : (atR ks PS).length = PS.length := atR_len _ _
            have hsh := short_texts (short_atR (unhide HS5) PS)
            by_cases hlt4 : q < PS.length
            · obtain ⟨bp, offp, rfl, hclp⟩ := ((unhide HP9).below (unhide HB)).at hlt4
              have hcp := hclp q hlt4
              have hpl2 : PS.getD q 0 < m5 := (unhide HES).1 _ (by rw [List.getD_eq_getElem?_getD, List.getElem?_eq_getElem hlt4]; exact List.getElem_mem hlt4)
              obtain ⟨b, off, rfl, hcl⟩ := ((unhide HR9).below (unhide HB)).at hpl2
              obtain ⟨hc0, hc1⟩ := hcl _ hpl2
              have hlt' : (q : Int) < (PS.length : Int) := by omega
              have hsx := sum_textsR (atR ks PS) q (by omega)
              have hst := sumL_len (textsR (atR ks PS)) hsh q
              rw [atR_get ks PS q hlt4] at hsx
              have hs1 := (unhide HS5 (PS.getD q 0)).2
              have hss : (st (sumL ((textsR (atR ks PS)).take q))).size ≤ 1048576 := by rw [st_len]; exact hst
              generalize PS.getD q 0 = p at *
              have hpl' : (p : Int) < (m5 : Int) := by omega
              generalize ks.getD p .dflt = r at *
              obtain ⟨S2, hS2⟩ : ∃ S2, S2 = st (sumL ((textsR (atR ks PS)).take (q + 1))) := ⟨_, rfl⟩
              rw [← hS2] at hsx
              have HS2 := hide hS2
              have HSX := hide hsx
              clear hS2
              generalize st (sumL ((textsR (atR ks PS)).take q)) = S1 at *
              have HXX := hide (rx_any S1 r.s wr hss (by omega))
              clear hcl hclp hsx hst hss
              go_wp2_with (go_at_call 40; refine (unhide HXX).mono ?_; rintro e w10 ⟨rfl, hb10⟩; rw [← unhide HSX]; have HB11 := hide (below0 (unhide HB) hb10); clear hb10)
              go_roundw
              case rel => exact ⟨q + 1, by omega, by go_num, by rw [unhide HS2], HB11⟩
              case measure => simp [intOf]; omega
            · have hke : (textsR (atR ks PS)).take q = textsR (atR ks PS) := List.take_of_length_le (by rw [textsR_len, hul]; omega)
              have hlt' : ¬ (q : Int) < (PS.length : Int) := by omega
              rw [hke, unhide HTJ]
              have HO10 := hide ((unhide HO9).below (unhide HB))
              have HB11 := hide (below0 (unhide HB10) (unhide HB))
              clear hke hsh
              go_wp2_with (at_builtin; refine wpList_pushT rfl (.tmp 76) (.tmp 78) rfl wo.heap.size (.slice a6 m6 c6) SJ TX rfl rfl (unhide HO10) (unhide HB11).size hrl ?_; intro v11 w11 ho11 hb11; obtain ⟨a11, m11, c11, rfl⟩ : ∃ a11 m11 c11, v11 = Value.slice a11 m11 c11 := (by obtain ⟨a, c, e, _⟩ := ho11.texts; exact ⟨a, _, c, e⟩); have HO11 := hide ho11; have HB12 := hide ((unhide HB11).trans hb11); clear ho11 hb11)
              go_roundw
              case rel => exact ⟨j + 1, a11, m11, c11, by omega, by go_num, rfl, hide (by rw [← unhide HRT]; exact unhide HO11), HB12⟩
              case measure => simp [intOf]; omega
        · obtain rfl : j = K := by omega
          have hlt' : ¬ (j : Int) < (j : Int) := by omega
          go_wp2
          go_ret2
          rw [(unhide HOKS).1, (unhide HOKS).2]
          exact ⟨_, _, _, rfl, (unhide HO).mono (unhide HB5).size, below0 (unhide HB5) (unhide HB)⟩
end Go.Proofs.YtnjdldbdkafnaaaGreatDoor
