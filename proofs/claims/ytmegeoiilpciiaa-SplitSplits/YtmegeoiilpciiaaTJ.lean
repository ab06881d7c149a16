/-
  Contracts of split.lacking, split.Join, bucketlineref09.Join: for up to 2^20 texts, in sum of at most 2^30 bytes.
-/
import Derived.Test.YtmegeoiilpciiaaTE
namespace Go.Proofs.Ytmegeoiilpciiaa
open Go.RowKit
set_option linter.unusedVariables false
set_option maxRecDepth 4000

theorem heap_new (w : World) (o : Obj) : (w.alloc o).heap[w.heap.size]? = some o := by
  show (w.heap.push o)[w.heap.size]? = _
  simp
set_option maxHeartbeats 400000 in
theorem lacking_any (a : Option Addr) (l c : Nat) (ss : List ByteArray) (n : Nat) (w : World) (h : TextsAt w a l ss) (hl : l ≤ 1048576) (hn : n ≤ 9223372036854775807) :
    Calls Try.prog 17 #[.slice a l c, .int .i64 (n : Int)] w fun e w' => e = .returned (.int .i64 ((n - (joinL ss).length : Nat) : Int)) ∧ w' = w := by
  obtain rfl := h.1
  go_enter Try.func17, Try.ntmps17
  go_wp2
  go_loop [1, 9] (fun v i => ∃ k r : Nat, k ≤ ss.length ∧ i = .int .i64 k ∧ v = .int .i64 (r : Int) ∧ r ≤ n ∧ Hid (r = n - (joinL (ss.take k)).length)) (fun _ i => ss.length - (intOf i).toNat)
  case atStart => exact ⟨0, n, Nat.zero_le _, rfl, rfl, Nat.le_refl _, hide (by simp [joinL])⟩
  case round =>
    obtain ⟨k, r, hk, rfl, rfl, hr, HR⟩ := hrel
    by_cases hlt : k < ss.length
    · obtain ⟨b, off, rfl, hc⟩ := h.at hlt
      have hcell := hc k hlt
      have hj := joinL_take ss k hlt
      have hjl := congrArg List.length hj
      rw [List.length_append, tx_length] at hjl
      have HJ := hide hjl
      generalize ss.getD k ByteArray.empty = t at *
      have M := min_run t.size r
      obtain ⟨q, hq⟩ : ∃ q, min t.size r = q := ⟨_, rfl⟩
      rw [hq] at M
      have esub : (r : Int) - (q : Int) = ((r - q : Nat) : Int) := by omega
      have hqr : q ≤ r := by omega
      have hlt' : (k : Int) < (ss.length : Int) := by omega
      have HR2 := hide (show r - q = n - (joinL (ss.take (k + 1))).length by have := unhide HR; have := unhide HJ; omega)
      clear hc hj hjl hq h
      go_wp2
      go_round
      case rel => exact ⟨k + 1, r - q, by omega, by go_num, by first | rfl | rw [esub], by omega, HR2⟩
      case measure => simp [intOf]; omega
    · obtain rfl : k = ss.length := by omega
      rw [List.take_length] at HR
      clear h
      go_wp2
      go_ret
      exact ⟨ret_int (by rw [unhide HR]), rfl⟩

set_option maxHeartbeats 400000 in
theorem join_no (a : Option Addr) (l c : Nat) (ss : List ByteArray) (n : Int) (w : World) (h : TextsAt w a l ss) (hl : l ≤ 1048576) (hn : n ≤ 9223372036854775807) (hj : n < 0 ∨ ((joinL ss).length : Int) < n) :
    Calls Try.prog 14 #[.slice a l c, .int .i64 n] w fun e w' => e = .returned (.tuple #[.string ⟨#[]⟩, .int .i64 1]) ∧ w' = w := by
  by_cases h0 : n < 0
  · clear h hj
    go_enter Try.func14, Try.ntmps14
    go_wp2
    go_ret2
    exact ⟨rfl, rfl⟩
  · obtain ⟨N, rfl⟩ : ∃ N : Nat, n = (N : Int) := ⟨n.toNat, by omega⟩
    have HL := hide (lacking_any a l c ss N w h hl (by omega))
    have hpos : 0 < N - (joinL ss).length := by omega
    generalize N - (joinL ss).length = r at *
    clear h hj
    go_enter Try.func14, Try.ntmps14
    go_wp2_with (go_at_call 17; refine (unhide HL).mono ?_; rintro e w1 ⟨rfl, hw⟩; obtain rfl := hw.symm)
    go_ret2
    exact ⟨rfl, rfl⟩

set_option maxHeartbeats 2000000 in
theorem join_yes (a : Option Addr) (l c : Nat) (ss : List ByteArray) (n : Nat) (w : World) (h : TextsAt w a l ss) (hl : l ≤ 1048576) (hn : n ≤ 1073741824) (hj : n ≤ (joinL ss).length) :
    Calls Try.prog 14 #[.slice a l c, .int .i64 (n : Int)] w fun e w' => e = .returned (.tuple #[.string (st ((joinL ss).take n)), .int .i64 0]) ∧ Below w.heap.size w w' := by
  obtain rfl := h.1
  have hlk := lacking_any a ss.length c ss n w h hl (by omega)
  rw [show n - (joinL ss).length = 0 by omega] at hlk
  have HL := hide hlk
  have HG := hide (bgrow_new w.heap.size w.heap.size n (w.alloc (.cells #[.pointer none, .slice none 0 0] 46)) (Nat.le_refl _) (heap_new w _) (by simp) hn)
  have hb0 : Below w.heap.size w (w.alloc (.cells #[.pointer none, .slice none 0 0] 46)) := (Below.refl _ _).alloc (Nat.le_refl _) _
  have hnn : (0 : Int) ≤ (n : Int) := by omega
  clear hlk
  go_enter Try.func14, Try.ntmps14
  go_wp2_with (first | (go_at_call 17; refine (unhide HL).mono ?_; rintro e w1 ⟨rfl, hw⟩; obtain rfl := hw.symm) | (go_at_call 18; refine (unhide HG).mono ?_; rintro e w1 ⟨rfl, hB1, hb1⟩))
  have HB0 := hide hB1
  have HBB := hide (hb0.trans hb1)
  clear hb0 hb1 hB1 HG HL
  go_loopw [21] (fun i wr => ∃ k : Nat, k ≤ ss.length ∧ i = .int .i64 k ∧ Hid (Bld wr w.heap.size w.heap.size ((joinL (ss.take k)).take n)) ∧ Hid (Below w.heap.size w wr)) (fun i _ => ss.length - (intOf i).toNat)
  case atStart => exact ⟨0, Nat.zero_le _, rfl, hide (by simpa [joinL] using unhide HB0), HBB⟩
  case round =>
    obtain ⟨k, hk, rfl, HO, HB⟩ := hrel
    clear HB0 HBB
    by_cases hlt : k < ss.length
    · obtain ⟨b, off, rfl, hc⟩ := (h.below (unhide HB)).at hlt
      have hcell := hc k hlt
      have HT := hide (joinL_take ss k hlt)
      generalize ss.getD k ByteArray.empty = t at *
      obtain ⟨P, hP⟩ : ∃ P, joinL (ss.take k) = P := ⟨_, rfl⟩
      rw [hP] at HO HT
      have hPl : (P.take n).length ≤ n := List.length_take_le _ _
      obtain ⟨q, hq⟩ : ∃ q, (P.take n).length = q := ⟨_, rfl⟩
      have HLn := hide (blen_any w.heap.size w.heap.size (P.take n) _ (unhide HO))
      rw [hq] at HLn hPl
      have esub : (n : Int) - (q : Int) = ((n - q : Nat) : Int) := by omega
      have M := min_run t.size (n - q)
      obtain ⟨r, hr⟩ : ∃ r, min t.size (n - q) = r := ⟨_, rfl⟩
      rw [hr] at M
      have hrt : r ≤ t.size := by omega
      have hx1 : (t.extract 0 r).size = r := by rw [ByteArray.size_extract]; omega
      have HW := hide (bwstr_any w.heap.size w.heap.size (P.take n) (t.extract 0 r) _ (unhide HO) (by rw [hq, hx1]; omega) (unhide HB).size)
      have HE := hide (show P.take n ++ tx (t.extract 0 r) = (joinL (ss.take (k + 1))).take n by
        rw [unhide HT, List.take_append, tx_cut, List.drop_zero, Nat.sub_zero]
        congr 1
        rw [List.length_take] at hq
        by_cases hc : n ≤ P.length
        · rw [show r = 0 by omega, show n - P.length = 0 by omega]
        · by_cases hc2 : t.size ≤ n - P.length
          · rw [List.take_of_length_le (by rw [tx_length]; omega), List.take_of_length_le (by rw [tx_length]; omega)]
          · rw [show r = n - P.length by omega])
      have hlt' : (k : Int) < (ss.length : Int) := by omega
      clear hc hP hq hr hx1 HT
      go_wp2_with (first | (go_at_call 20; refine (unhide HLn).mono ?_; rintro e w1 ⟨rfl, hw⟩; obtain rfl := hw.symm) | (go_at_call 19; refine (unhide HW).mono ?_; rintro e w2 ⟨rfl, hB2, hb2⟩))
      rw [unhide HE] at hB2
      have HB2 := hide hB2
      have HBB2 := hide ((unhide HB).trans hb2)
      clear hB2 hb2 HO HB
      go_wp2
      go_roundw
      case rel => exact ⟨k + 1, by omega, by go_num, HB2, HBB2⟩
      case measure => simp [intOf]; omega
    · obtain rfl : k = ss.length := by omega
      rw [List.take_length] at HO
      have HS := hide (bstr_any w.heap.size w.heap.size _ _ (unhide HO) (unhide HB).size)
      clear h HO
      go_wp2_with (go_at_call 21; refine (unhide HS).mono ?_; rintro e w1 ⟨rfl, hb1⟩)
      go_ret2
      exact ⟨rfl, (unhide HB).trans hb1⟩

theorem rjoin_part (ss : List ByteArray) (n : Nat) (t : ByteArray) (h : t = st (joinL ss)) (hn : n ≤ (joinL ss).length) : t.extract 0 n = st ((joinL ss).take n) := by
  apply tx_inj
  rw [tx_cut, h, tx_st (joinL_bytes ss), tx_st (bytes_take (joinL_bytes ss) n)]
  simp

set_option maxHeartbeats 1000000 in
theorem rjoin_any (a : Option Addr) (l c : Nat) (ss : List ByteArray) (n : Int) (w : World) (h : TextsAt w a l ss) (hl : l ≤ 1048576) (hj : (joinL ss).length ≤ 1073741824) :
    Calls Try.prog 15 #[.slice a l c, .int .i64 n] w fun e w' => e = .returned (if n < 0 ∨ ((joinL ss).length : Int) < n then .tuple #[.string ⟨#[]⟩, .int .i64 1] else .tuple #[.string (st ((joinL ss).take n.toNat)), .int .i64 0]) ∧ w' = w := by
  obtain rfl := h.1
  obtain ⟨R, hR⟩ : ∃ R, (if n < 0 ∨ ((joinL ss).length : Int) < n then Value.tuple #[.string ⟨#[]⟩, .int .i64 1] else .tuple #[.string (st ((joinL ss).take n.toNat)), .int .i64 0]) = R := ⟨_, rfl⟩
  have HR := hide hR
  rw [hR]
  clear hR
  go_enter Try.func15, Try.ntmps15
  go_wp2
  go_loop [6, 7] (fun v i => ∃ (k : Nat) (t : ByteArray), k ≤ ss.length ∧ i = .int .i64 k ∧ v = .string t ∧ Hid (t = st (joinL (ss.take k)))) (fun _ i => ss.length - (intOf i).toNat)
  case atStart => exact ⟨0, _, Nat.zero_le _, rfl, rfl, hide (by simp [joinL]; rfl)⟩
  case round =>
    obtain ⟨k, t, hk, rfl, rfl, HT⟩ := hrel
    by_cases hlt : k < ss.length
    · obtain ⟨b, off, rfl, hc⟩ := h.at hlt
      have hcell := hc k hlt
      have HJ := hide (joinL_take ss k hlt)
      have hle := joinL_le ss (k + 1)
      rw [unhide HJ, List.length_append, tx_length] at hle
      generalize ss.getD k ByteArray.empty = u at *
      have hts : t.size = (joinL (ss.take k)).length := by rw [unhide HT, st_len]
      have hadd : (9223372036854775807 < t.size + u.size) = False := by simp; omega
      have HT2 := hide (show t ++ u = st (joinL (ss.take (k + 1))) by
        apply tx_inj
        rw [tx_append, unhide HT, unhide HJ, tx_st (joinL_bytes _), tx_st (fun x hx => by
          rcases List.mem_append.1 hx with hx | hx
          · exact joinL_bytes _ x hx
          · exact tx_bytes u x hx)])
      have hlt' : (k : Int) < (ss.length : Int) := by omega
      clear hc h hts hle
      go_wp2
      go_round
      case rel => exact ⟨k + 1, _, by omega, by go_num, rfl, HT2⟩
      case measure => simp [intOf]; omega
    · obtain rfl : k = ss.length := by omega
      rw [List.take_length] at HT
      have hts : t.size = (joinL ss).length := by rw [unhide HT, st_len]
      clear h
      by_cases hb : n < 0 ∨ ((joinL ss).length : Int) < n
      · have HR2 := hide (unhide HR)
        rw [if_pos hb] at HR2
        by_cases h0 : n < 0
        · clear hb HR
          go_wp2
          go_ret2
          exact ⟨congrArg _ (unhide HR2), rfl⟩
        · have hb2 : (t.size : Int) < n := by omega
          clear hb HR hts
          go_wp2
          go_ret2
          exact ⟨congrArg _ (unhide HR2), rfl⟩
      · have HR2 := hide (unhide HR)
        rw [if_neg hb] at HR2
        obtain ⟨N, rfl⟩ : ∃ N : Nat, n = (N : Int) := ⟨n.toNat, by omega⟩
        have hle : N ≤ (joinL ss).length := by omega
        rw [Int.toNat_natCast] at HR2
        rw [← rjoin_part ss N t (unhide HT) hle] at HR2
        have h0 : (0 : Int) ≤ (N : Int) := by omega
        have h1 : (N : Int) ≤ (t.size : Int) := by omega
        clear hb HR hts hle
        go_wp2
        go_ret2
        exact ⟨congrArg _ (unhide HR2), rfl⟩
end Go.Proofs.Ytmegeoiilpciiaa
