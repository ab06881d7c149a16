/-
  Contracts of bucketlineref01.First, Same, Words, Size, Set and of words.Size, Set: for every row of at most 2^20 words, every int.
-/
import Derived.Test.YtjgckchddllinaaDoorRA
import Derived.Deep.RegionWith
namespace Go.Proofs.YtjgckchddllinaaDoor
open Go.RowKit
set_option linter.unusedVariables false

set_option maxHeartbeats 400000 in
theorem rsame_any (a : Option Addr) (n c : Nat) (xs : List Nat) (a' : Option Addr) (m c' : Nat) (ys : List Nat) (w : World) (h : RowAt w a n xs) (h' : RowAt w a' m ys) (hn : n ≤ 1048576) (hm : m ≤ 1048576) :
    Calls Tryd.prog 62 #[.slice a n c, .slice a' m c'] w fun e w' => e = .returned (.bool (decide (cnt (xorL xs ys) = 0))) ∧ Below w.heap.size w w' := by
  go_enter Tryd.func62, Tryd.ntmps62
  go_wp2_with fail
  refine (rxor_any a n c xs a' m c' ys _ h h' hn hm).mono ?_
  rintro e w1 ⟨v, rfl, ho, hb⟩
  obtain ⟨a1, c1, rfl, hr⟩ := ho.row
  have hl : (xorL xs ys).length ≤ 1048576 := by rw [xorL_length, h.1, h'.1]; omega
  go_wp2_with fail
  refine (rcount_any a1 _ c1 _ _ hr hl).mono ?_
  rintro e w2 ⟨rfl, rfl⟩
  have he : ∀ q : Nat, ((q : Int) == 0) = decide (q = 0) := fun q => by
    by_cases e : q = 0
    · subst e; rfl
    · simp [e]
  have HE := hide (he (cnt (xorL xs ys)))
  clear he
  go_wp2
  go_ret
  exact ⟨ret_bool (unhide HE), hb⟩

def sizeOfK (k : Int) : Nat := if k < 1 ∨ 128 < k then 0 else ((k + 63) / 64).toNat
set_option maxHeartbeats 400000 in
theorem size_any (k : Int) (w : World) :
    Calls Tryd.prog 72 #[.int .i64 k] w fun e w' => e = .returned (.int .i64 ((sizeOfK k : Nat) : Int)) ∧ w' = w := by
  by_cases h1 : k < 1
  · have e : sizeOfK k = 0 := by unfold sizeOfK; rw [if_pos (.inl h1)]
    rw [e]
    go_enter Tryd.func72, Tryd.ntmps72
    go_wp2
    go_ret
    exact ⟨rfl, rfl⟩
  · by_cases h2 : 128 < k
    · have e : sizeOfK k = 0 := by unfold sizeOfK; rw [if_pos (.inr h2)]
      rw [e]
      go_enter Tryd.func72, Tryd.ntmps72
      go_wp2
      go_ret
      exact ⟨rfl, rfl⟩
    · have e : ((sizeOfK k : Nat) : Int) = (k + 64 - 1) / 64 := by unfold sizeOfK; rw [if_neg (by omega)]; omega
      have HE := hide e
      clear e
      go_enter Tryd.func72, Tryd.ntmps72
      go_wp2
      go_ret
      exact ⟨ret_int (unhide HE).symm, rfl⟩
set_option maxHeartbeats 400000 in
theorem rsize_any (k : Int) (w : World) :
    Calls Tryd.prog 55 #[.int .i64 k] w fun e w' => e = .returned (.int .i64 ((sizeOfK k : Nat) : Int)) ∧ w' = w := by
  by_cases h1 : k < 1
  · have e : sizeOfK k = 0 := by unfold sizeOfK; rw [if_pos (.inl h1)]
    rw [e]
    go_enter Tryd.func55, Tryd.ntmps55
    go_wp2
    go_ret
    exact ⟨rfl, rfl⟩
  · by_cases h2 : 128 < k
    · have e : sizeOfK k = 0 := by unfold sizeOfK; rw [if_pos (.inr h2)]
      rw [e]
      go_enter Tryd.func55, Tryd.ntmps55
      go_wp2
      go_ret
      exact ⟨rfl, rfl⟩
    · have e : ((sizeOfK k : Nat) : Int) = (k + 64 - 1) / 64 := by unfold sizeOfK; rw [if_neg (by omega)]; omega
      have HE := hide e
      clear e
      go_enter Tryd.func55, Tryd.ntmps55
      go_wp2
      go_loop [3] (fun t => ∃ q : Nat, 64 * ((q : Int) - 1) < k ∧ t = .int .i64 (q : Int)) (fun t => 10 - (intOf t).toNat)
      case atStart => exact ⟨0, by omega, rfl⟩
      case round =>
        obtain ⟨q, hq, rfl⟩ := hrel
        by_cases hl : 64 * (q : Int) < k
        · go_wp2
          go_round
          case rel => exact ⟨q + 1, by omega, by go_num⟩
          case measure => simp [intOf]; omega
        · go_wp2
          go_ret
          exact ⟨ret_int (by rw [unhide HE]; omega), rfl⟩
end Go.Proofs.YtjgckchddllinaaDoor
