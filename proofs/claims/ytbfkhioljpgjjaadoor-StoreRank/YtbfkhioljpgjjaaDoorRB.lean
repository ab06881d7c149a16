/-
  Contracts of bucketlineref01.First, Same, Words, Size, Set and of words.Size, Set: for every row of at most 2^20 words, every int.
-/
import Derived.Test.YtbfkhioljpgjjaaDoorRA
import Derived.Deep.RegionWith
namespace Go.Proofs.YtbfkhioljpgjjaaDoor
open Go.RowKit
set_option linter.unusedVariables false
set_option maxRecDepth 4000

set_option maxHeartbeats 1000000 in
theorem rfirst_any (a : Option Addr) (n c : Nat) (xs : List Nat) (w : World) (h : RowAt w a n xs) (hn : n ≤ 1048576) :
    Calls Tryd.prog 53 #[.slice a n c] w fun e w' => e = .returned (.int .i64 (firstI xs)) ∧ w' = w := by
  go_enter Tryd.func53, Tryd.ntmps53
  go_wp2
  go_loop [3] (fun i => ∃ k : Nat, k ≤ n ∧ i = .int .i64 k ∧ Hid (∀ j, j < k → xs.getD j 0 = 0)) (fun i => n - (intOf i).toNat)
  case atStart => exact ⟨0, Nat.zero_le _, rfl, hide (fun j hj => by omega)⟩
  case round =>
    obtain ⟨k, hk, rfl, HZ⟩ := hrel
    by_cases hlt : k < n
    · have hR := h
      obtain ⟨b, off, rfl, hc⟩ := h.at hlt
      have hcell := hc k hlt
      have hx := h.2.1.get k
      by_cases h0 : xs.getD k 0 = 0
      · rw [h0] at hcell
        have HS := hide (first_step xs k (unhide HZ) h0)
        clear hc h h0 hx hR
        go_wp2
        go_round
        case rel => exact ⟨k + 1, by omega, by go_num, HS⟩
        case measure => simp [intOf]; omega
      · have HF := hide (firstI_at xs k (by rw [h.1]; exact hlt) (unhide HZ) h0)
        have hct := ctz_lt (xs.getD k 0) h0 hx
        have HB := hide (ctz_bit (xs.getD k 0) h0 hx)
        have HL := hide (fun j (hj : j < Lib.ctz 64 (xs.getD k 0)) => ctz_low (xs.getD k 0) j h0 hx hj)
        have HG := hide (fun j (hj : j < 64) => getB_at xs k j hj)
        have hne : (((xs.getD k 0 : Nat) : Int) == 0) = false := by simp only [beq_eq_false_iff_ne, ne_eq]; omega
        generalize xs.getD k 0 = x at *
        generalize Lib.ctz 64 x = t at *
        clear hc h h0
        go_wp2
        go_loop [4] (fun y => ∃ j : Nat, j ≤ t ∧ y = .int .i64 (64 * (k : Int) + (j : Int))) (fun y => (64 * k + t) - (intOf y).toNat)
        case atStart => exact ⟨0, by omega, by go_num⟩
        case round =>
          obtain ⟨j, hj, rfl⟩ := hrel
          have hc := rget_in (some ⟨b, off, none⟩) n c xs (64 * (k : Int) + (j : Int)) w hR (by omega) (by omega) (by omega) (by omega)
          rw [show (64 * (k : Int) + (j : Int)).toNat = 64 * k + j by omega, unhide HG j (by omega)] at hc
          by_cases hjt : j < t
          · rw [unhide HL j hjt] at hc
            have HC := hide hc
            clear hc hR
            go_wp2_with (go_at_call 31; refine (unhide HC).mono ?_; rintro e w' ⟨rfl, rfl⟩)
            go_round
            case rel => exact ⟨j + 1, by omega, by go_num⟩
            case measure => simp [intOf]; omega
          · have hje : j = t := by omega
            subst hje
            rw [unhide HB] at hc
            have HC := hide hc
            clear hc hR
            go_wp2_with (go_at_call 31; refine (unhide HC).mono ?_; rintro e w' ⟨rfl, rfl⟩)
            go_ret
            exact ⟨ret_int (by rw [unhide HF]; omega), rfl⟩
    · have HF := hide (first_none xs (fun j hj => unhide HZ j (by have := h.1; omega)))
      go_wp2
      go_ret
      exact ⟨ret_int (unhide HF).symm, rfl⟩

set_option maxHeartbeats 400000 in
theorem rsame_any (a : Option Addr) (n c : Nat) (xs : List Nat) (a' : Option Addr) (m c' : Nat) (ys : List Nat) (w : World) (h : RowAt w a n xs) (h' : RowAt w a' m ys) (hn : n ≤ 1048576) (hm : m ≤ 1048576) :
    Calls Tryd.prog 29 #[.slice a n c, .slice a' m c'] w fun e w' => e = .returned (.bool (decide (cnt (xorL xs ys) = 0))) ∧ Below w.heap.size w w' := by
  go_enter Tryd.func29, Tryd.ntmps29
  go_wp2_with fail
  refine (rxor_any a n c xs a' m c' ys _ h h' hn hm).mono ?_
  rintro e w1 ⟨v, rfl, ho, hb⟩
  obtain ⟨a1, c1, rfl, hr⟩ := ho.row
  have hl : (xorL xs ys).length ≤ 1048576 := by rw [xorL_length, h.1, h'.1]; omega
  go_wp2_with fail
  refine (rcount_any a1 _ c1 _ _ hr hl).mono ?_
  rintro e w2 ⟨rfl, rfl⟩
  have he : ∀ q : Nat, ((q : Int) == 0) = decide (q = 0) := fun q => by
    by_cases e : q = 0
    · subst e; rfl
    · simp [e]
  have HE := hide (he (cnt (xorL xs ys)))
  clear he
  go_wp2
  go_ret
  exact ⟨ret_bool (unhide HE), hb⟩

def sizeOfK (k : Int) : Nat := if k < 1 ∨ 128 < k then 0 else ((k + 63) / 64).toNat
set_option maxHeartbeats 400000 in
theorem size_any (k : Int) (w : World) :
    Calls Tryd.prog 47 #[.int .i64 k] w fun e w' => e = .returned (.int .i64 ((sizeOfK k : Nat) : Int)) ∧ w' = w := by
  by_cases h1 : k < 1
  · have e : sizeOfK k = 0 := by unfold sizeOfK; rw [if_pos (.inl h1)]
    rw [e]
    go_enter Tryd.func47, Tryd.ntmps47
    go_wp2
    go_ret
    exact ⟨rfl, rfl⟩
  · by_cases h2 : 128 < k
    · have e : sizeOfK k = 0 := by unfold sizeOfK; rw [if_pos (.inr h2)]
      rw [e]
      go_enter Tryd.func47, Tryd.ntmps47
      go_wp2
      go_ret
      exact ⟨rfl, rfl⟩
    · have e : ((sizeOfK k : Nat) : Int) = (k + 64 - 1) / 64 := by unfold sizeOfK; rw [if_neg (by omega)]; omega
      have HE := hide e
      clear e
      go_enter Tryd.func47, Tryd.ntmps47
      go_wp2
      go_ret
      exact ⟨ret_int (unhide HE).symm, rfl⟩
set_option maxHeartbeats 400000 in
theorem rsize_any (k : Int) (w : World) :
    Calls Tryd.prog 30 #[.int .i64 k] w fun e w' => e = .returned (.int .i64 ((sizeOfK k : Nat) : Int)) ∧ w' = w := by
  by_cases h1 : k < 1
  · have e : sizeOfK k = 0 := by unfold sizeOfK; rw [if_pos (.inl h1)]
    rw [e]
    go_enter Tryd.func30, Tryd.ntmps30
    go_wp2
    go_ret
    exact ⟨rfl, rfl⟩
  · by_cases h2 : 128 < k
    · have e : sizeOfK k = 0 := by unfold sizeOfK; rw [if_pos (.inr h2)]
      rw [e]
      go_enter Tryd.func30, Tryd.ntmps30
      go_wp2
      go_ret
      exact ⟨rfl, rfl⟩
    · have e : ((sizeOfK k : Nat) : Int) = (k + 64 - 1) / 64 := by unfold sizeOfK; rw [if_neg (by omega)]; omega
      have HE := hide e
      clear e
      go_enter Tryd.func30, Tryd.ntmps30
      go_wp2
      go_loop [3] (fun t => ∃ q : Nat, 64 * ((q : Int) - 1) < k ∧ t = .int .i64 (q : Int)) (fun t => 10 - (intOf t).toNat)
      case atStart => exact ⟨0, by omega, rfl⟩
      case round =>
        obtain ⟨q, hq, rfl⟩ := hrel
        by_cases hl : 64 * (q : Int) < k
        · go_wp2
          go_round
          case rel => exact ⟨q + 1, by omega, by go_num⟩
          case measure => simp [intOf]; omega
        · go_wp2
          go_ret
          exact ⟨ret_int (by rw [unhide HE]; omega), rfl⟩
end Go.Proofs.YtbfkhioljpgjjaaDoor
