/-
  Contracts of bucketlineref07.sizes, Check, and of bucketlinelaw07.few: for every packet.
-/
import Derived.Test.YtpklckpnimmkpaaPA
namespace Go.Proofs.Ytpklckpnimmkpaa
open Go.RowKit
set_option linter.unusedVariables false
set_option maxRecDepth 4000

set_option maxHeartbeats 400000 in
theorem rsizes_any (k z : Int) (w : World) (b : Bool) (hb : TB b (shapedP k z)) :
    Calls Try.prog 22 #[.int .i64 k, .int .i64 z] w fun e w' => e = .returned (.bool b) ∧ w' = w := by
  have HB := hide hb
  clear hb
  by_cases h1 : 1 ≤ k
  · by_cases h2 : k ≤ 128
    · by_cases h3 : 1 ≤ z
      · by_cases h4 : z ≤ 64
        · go_enter Try.func22, Try.ntmps22
          go_wp2
          go_ret
          exact ⟨ret_bool ((unhide HB).yes ⟨⟨h1, h2⟩, h3, h4⟩).symm, rfl⟩
        · go_enter Try.func22, Try.ntmps22
          go_wp2
          go_ret
          exact ⟨ret_bool ((unhide HB).no (fun h => by have := h.2.2; omega)).symm, rfl⟩
      · go_enter Try.func22, Try.ntmps22
        go_wp2
        go_ret
        exact ⟨ret_bool ((unhide HB).no (fun h => by have := h.2.1; omega)).symm, rfl⟩
    · go_enter Try.func22, Try.ntmps22
      go_wp2
      go_ret
      exact ⟨ret_bool ((unhide HB).no (fun h => by have := h.1.2; omega)).symm, rfl⟩
  · go_enter Try.func22, Try.ntmps22
    go_wp2
    go_ret
    exact ⟨ret_bool ((unhide HB).no (fun h => by have := h.1.1; omega)).symm, rfl⟩

set_option maxHeartbeats 2000000 in
theorem rcheck_any (o l k z h : Int) (a : Option Addr) (n c : Nat) (xs : List Nat) (s : ByteArray) (w : World) (hr : RowAt w a n xs) (en : Nat) (hen : CkP en (CheckP o l k z h xs s.size)) :
    Calls Try.prog 9 #[.agg #[.int .i64 o, .int .i64 l, .int .i64 k, .int .i64 z, .int .i64 h, .slice a n c, .string s]] w fun e w' => e = .returned (.int .i64 ((en : Nat) : Int)) ∧ Below w.heap.size w w' := by
  have HE := hide hen
  obtain ⟨b1, h1⟩ := tb_ex (shapedP k z)
  have H1 := hide h1
  have HL := hide hr.1
  have HR := hide (row_alloc hr (.cells #[.int .i64 o, .int .i64 l, .int .i64 k, .int .i64 z, .int .i64 h, .slice a n c, .string s] 26))
  have B0 := hide (below_new w (.cells #[.int .i64 o, .int .i64 l, .int .i64 k, .int .i64 z, .int .i64 h, .slice a n c, .string s] 26))
  clear hen hr h1
  by_cases c1 : 0 ≤ o
  case neg =>
    go_enter Try.func9, Try.ntmps9
    go_wp2
    go_ret
    exact ⟨ret_int (by rw [(unhide HE).no (fun h => by have := h.1.2.1.1; omega)]; rfl), unhide B0⟩
  by_cases c2 : o ≤ 4294967295
  case neg =>
    go_enter Try.func9, Try.ntmps9
    go_wp2
    go_ret
    exact ⟨ret_int (by rw [(unhide HE).no (fun h => by have := h.1.2.1.2; omega)]; rfl), unhide B0⟩
  go_enter Try.func9, Try.ntmps9
  go_wp2_with fail
  refine (rsizes_any k z _ b1 (unhide H1)).mono ?_
  rintro e w' ⟨rfl, hw⟩
  obtain rfl := hw.symm
  clear hw
  cases b1
  · go_wp2
    go_ret
    exact ⟨ret_int (by rw [(unhide HE).no (fun h => by simpa using (unhide H1).2 h.1.1)]; rfl), unhide B0⟩
  · have HW := hide (show wrap64 (k * z) = k * z by have hm := mul_le ((unhide H1).1 rfl); unfold wrap64; omega)
    by_cases c4 : 0 ≤ h
    case neg =>
      go_wp2
      go_ret
      exact ⟨ret_int (by rw [(unhide HE).no (fun h => by have := h.1.2.2.2.1; omega)]; rfl), unhide B0⟩
    by_cases c5 : h ≤ 15
    case neg =>
      go_wp2
      go_ret
      exact ⟨ret_int (by rw [(unhide HE).no (fun h => by have := h.1.2.2.2.2; omega)]; rfl), unhide B0⟩
    by_cases c6 : l < 0
    case pos =>
      go_wp2
      go_ret
      exact ⟨ret_int (by rw [(unhide HE).no (fun h => by have := h.1.2.2.1.1; omega)]; rfl), unhide B0⟩
    by_cases c7 : wrap64 (k * z) < l
    case pos =>
      go_wp2
      go_ret
      exact ⟨ret_int (by rw [(unhide HE).no (fun h => by have := h.1.2.2.1.2; have := unhide HW; omega)]; rfl), unhide B0⟩
    have HL7 := hide (show 0 ≤ l ∧ l ≤ k * z by have := unhide HW; omega)
    have HBP := hide (show boundP o l k z h from ⟨(unhide H1).1 rfl, ⟨c1, c2⟩, unhide HL7, c4, c5⟩)
    go_wp2_with fail
    refine (rvalid_any a n c xs k _ (unhide HR)).mono ?_
    rintro e w1 ⟨⟨b2, rfl, hb2⟩, hw⟩
    obtain rfl := hw.symm
    clear hw
    have H2 := hide hb2
    clear hb2
    cases b2
    · go_wp2
      go_ret
      exact ⟨ret_int (by rw [(unhide HE).no (fun h => by simpa using (unhide H2).2 h.2.1)]; rfl), unhide B0⟩
    · have hv := (unhide H2).1 rfl
      have hn : n ≤ 1048576 := by have := valid_len hv; have := unhide HL; omega
      have HC := hide (rcount_any a n c xs _ (unhide HR) hn)
      have HV := hide hv
      clear hv hn
      rcases Nat.eq_zero_or_pos (cnt xs) with hc | hc
      · rw [hc] at HC
        have HZ := hide hc
        clear hc
        go_wp2_with fail
        refine (unhide HC).mono ?_
        rintro e w' ⟨rfl, hw⟩
        obtain rfl := hw.symm
        clear hw
        go_wp2
        go_ret
        exact ⟨ret_int (by rw [(unhide HE).no (fun h => by have := h.2.2.1; have := unhide HZ; omega)]; rfl), unhide B0⟩
      · have HZ := hide hc
        have hc' : (((cnt xs : Nat) : Int) == 0) = false := by rw [beq_eq_false_iff_ne]; omega
        generalize ((cnt xs : Nat) : Int) = m at *
        clear hc
        by_cases hz : (s.size : Int) = z
        · have hz' : ((s.size : Int) != z) = false := by rw [hz]; simp
          have HQ := hide hz
          clear hz
          go_wp2_with fail
          refine (unhide HC).mono ?_
          rintro e w' ⟨rfl, hw⟩
          obtain rfl := hw.symm
          clear hw
          go_wp2
          go_ret
          exact ⟨ret_int (by rw [(unhide HE).yes ⟨unhide HBP, unhide HV, unhide HZ, unhide HQ⟩]; rfl), unhide B0⟩
        · have hz' : ((s.size : Int) != z) = true := by rw [bne_iff_ne]; exact hz
          have HQ := hide hz
          clear hz
          go_wp2_with fail
          refine (unhide HC).mono ?_
          rintro e w' ⟨rfl, hw⟩
          obtain rfl := hw.symm
          clear hw
          go_wp2
          go_ret
          exact ⟨ret_int (by rw [(unhide HE).no (fun h => unhide HQ h.2.2.2)]; rfl), unhide B0⟩

end Go.Proofs.Ytpklckpnimmkpaa
