/-
  Contracts of nums.join, Put, PutVec: for every int, rows of at most 2^20 words.
-/
import Derived.Test.YtdiondgkkanamaaDoorNC
import Derived.Test.YtdiondgkkanamaaDoorBld
namespace Go.Proofs.YtdiondgkkanamaaDoor
open Go.RowKit
set_option linter.unusedVariables false
set_option maxRecDepth 4000

theorem byte_at (x d : Nat) : (x : Int) / 2 ^ (8 * d) % 256 = ((x / 256 ^ d % 256 : Nat) : Int) := by
  rw [show (2 : Int) ^ (8 * d) = ((256 ^ d : Nat) : Int) by rw [Int.pow_mul]; simp]
  simp

set_option maxHeartbeats 2000000 in
theorem join_any (W : Nat) (hW0 : 0 < W) (hW : W ≤ 8) (a : Option Addr) (n c : Nat) (xs : List Nat) (w : World) (h : RowAt w a n xs) (hn : n ≤ 1048576) :
    Calls Tryd.prog 40 #[.int .i64 (W : Int), .slice a n c] w fun e w' => e = .returned (.string (st (xs.flatMap (be W)))) ∧ Below w.heap.size w w' := by
  obtain rfl : n = xs.length := h.1.symm
  have hmul : (W : Int) * (xs.length : Int) = ((W * xs.length : Nat) : Int) := by simp
  have hm2 : W * xs.length ≤ 8388608 := Nat.le_trans (Nat.mul_le_mul hW hn) (by decide)
  have HG := hide (bgrow_new w.heap.size w.heap.size (W * xs.length) (w.alloc (.cells #[.pointer none, .slice none 0 0] 85)) (Nat.le_refl _) (heap_alloc_new w _) (by simp) (by omega))
  have hb0 : Below w.heap.size w (w.alloc (.cells #[.pointer none, .slice none 0 0] 85)) := (Below.refl _ _).alloc (Nat.le_refl _) _
  generalize W * xs.length = m at *
  go_enter Tryd.func40, Tryd.ntmps40
  go_wp2_with (go_at_call 48; refine (unhide HG).mono ?_; rintro e w1 ⟨rfl, hB1, hb1⟩)
  have hB := hb0.trans hb1
  have HB0 := hide hB1
  have HBB := hide hB
  clear hb0 hb1 hB1 hB HG hm2 hmul
  go_loopw [16] (fun i wr => ∃ k : Nat, k ≤ xs.length ∧ i = .int .i64 k ∧ Hid (Bld wr w.heap.size w.heap.size ((xs.take k).flatMap (be W))) ∧ Hid (Below w.heap.size w wr)) (fun i _ => xs.length - (intOf i).toNat)
  case atStart => exact ⟨0, Nat.zero_le _, rfl, hide (by simpa using unhide HB0), HBB⟩
  case round =>
    obtain ⟨k, hk, rfl, HO, HB⟩ := hrel
    clear HB0 HBB
    by_cases hlt : k < xs.length
    · obtain ⟨b, off, rfl, hc⟩ := (h.below (unhide HB)).at hlt
      have hcell := hc k hlt
      have hx := h.2.1.get k
      have HT := hide (beW_take W hlt)
      have hpl : ((xs.take k).flatMap (be W)).length ≤ 8388608 := by
        rw [beW_length, List.length_take]
        exact Nat.le_trans (Nat.mul_le_mul (show min k xs.length ≤ 1048576 by omega) hW) (by decide)
      generalize xs.getD k 0 = x at *
      generalize (xs.take k).flatMap (be W) = pre at *
      clear hc
      go_wp2
      go_loopw [21] (fun i wq => ∃ j : Nat, j ≤ W ∧ i = .int .i64 j ∧ Hid (Bld wq w.heap.size w.heap.size (pre ++ (be W x).take j)) ∧ Hid (Below w.heap.size w wq)) (fun i _ => W - (intOf i).toNat)
      case atStart => exact ⟨0, Nat.zero_le _, rfl, hide (by simpa using unhide HO), HB⟩
      case round =>
        obtain ⟨j, hj, rfl, HO, HB⟩ := hrel
        by_cases hjt : j < W
        · have hby := byte_at x (W - 1 - j)
          have HS := hide (be_take W x j hjt)
          have hy : x / 256 ^ (W - 1 - j) % 256 < 256 := Nat.mod_lt _ (by decide)
          generalize x / 256 ^ (W - 1 - j) % 256 = y at *
          have hle : (pre ++ (be W x).take j).length ≤ 1073741824 := by
            rw [List.length_append]
            have := List.length_take_le j (be W x)
            omega
          have HC := hide (bbyte_any w.heap.size w.heap.size _ y _ (unhide HO) hy hle (unhide HB).size)
          clear hle
          go_wp2_with (go_at_call 49; refine (unhide HC).mono ?_; rintro e w' ⟨rfl, hO', hB'⟩)
          rw [List.append_assoc, ← unhide HS] at hO'
          go_roundw
          case rel => exact ⟨j + 1, by omega, by go_num, hide hO', hide ((unhide HB).trans hB')⟩
          case measure => simp [intOf]; omega
        · have hje : j = W := by omega
          subst hje
          rw [List.take_of_length_le (by rw [be_length]; exact Nat.le_refl _), ← unhide HT] at HO
          go_wp2
          go_roundw
          case rel => exact ⟨k + 1, by omega, by go_num, HO, HB⟩
          case measure => simp [intOf]; omega
    · have hke : k = xs.length := by omega
      subst hke
      rw [List.take_length] at HO
      have HC := hide (bstr_any w.heap.size w.heap.size _ _ (unhide HO) (unhide HB).size)
      go_wp2_with (go_at_call 50; refine (unhide HC).mono ?_; rintro e w' ⟨rfl, hB'⟩)
      go_ret
      exact ⟨rfl, (unhide HB).trans hB'⟩

/-- An int's bits as a number. -/
def m64 (n : Int) : Nat := (n % 18446744073709551616).toNat
theorem m64_lt (n : Int) : m64 n < 18446744073709551616 := by unfold m64; omega
theorem m64_wrap (n : Int) : IntKind.u64.wrap n = ((m64 n : Nat) : Int) := by rw [IntKind.wrap_u64]; unfold m64; omega
/-- An int's bytes, as many as k tells; none of another width. -/
def putL (n k : Int) : List Nat := if k = 1 ∨ k = 2 ∨ k = 4 then be k.toNat (m64 n) else []
theorem putL_yes {n : Int} {k : Int} (h : isW k) : putL n k = be k.toNat (m64 n) := if_pos h
theorem putL_no {n : Int} {k : Int} (h : ¬ isW k) : putL n k = [] := if_neg h
theorem putL_bytes (n k : Int) : bytes (putL n k) := by
  unfold putL
  split
  · exact be_bytes _ _
  · exact bytes_nil
theorem st_nil : st [] = ⟨#[]⟩ := rfl

set_option maxHeartbeats 1000000 in
theorem put_any (n k : Int) (w : World) :
    Calls Tryd.prog 29 #[.int .i64 n, .int .i64 k] w fun e w' => e = .returned (.string (st (putL n k))) ∧ Below w.heap.size w w' := by
  by_cases h : isW k
  · rw [putL_yes h]
    have HK := hide (fun wx => known_yes k h wx)
    obtain ⟨W, rfl, hW⟩ := isW_cases h
    have hwr := m64_wrap n
    have hlt := m64_lt n
    rw [Int.toNat_natCast]
    generalize m64 n = m at *
    have HJ := hide (join_any W (by omega) (by omega) _ 1 1 [m] _ (row_new1 w m hlt) (by omega))
    clear h hW hlt
    go_enter Tryd.func29, Tryd.ntmps29
    go_wp2_with (first | (go_at_call 39; refine (unhide HK _).mono ?_; rintro e w' ⟨rfl, rfl⟩) | (go_at_call 40; refine (unhide HJ).mono ?_; rintro e w' ⟨rfl, hb⟩))
    go_ret
    exact ⟨rfl, below1 (Below.refl _ _) hb⟩
  · rw [putL_no h, st_nil]
    have HK := hide (fun wx => known_no k h wx)
    clear h
    go_enter Tryd.func29, Tryd.ntmps29
    go_wp2_with (go_at_call 39; refine (unhide HK _).mono ?_; rintro e w' ⟨rfl, rfl⟩)
    go_ret
    exact ⟨rfl, Below.refl _ _⟩

set_option maxHeartbeats 400000 in
theorem putvec_any (a : Option Addr) (n c : Nat) (xs : List Nat) (w : World) (h : RowAt w a n xs) (hn : n ≤ 1048576) :
    Calls Tryd.prog 52 #[.slice a n c] w fun e w' => e = .returned (.string (st (beV xs))) ∧ Below w.heap.size w w' := by
  have HJ := hide (join_any 8 (by omega) (by omega) a n c xs w h hn)
  clear h hn
  go_enter Tryd.func52, Tryd.ntmps52
  go_wp2_with (go_at_call 40; refine (unhide HJ).mono ?_; rintro e w' ⟨rfl, hb⟩)
  go_ret
  exact ⟨rfl, hb⟩
end Go.Proofs.YtdiondgkkanamaaDoor
