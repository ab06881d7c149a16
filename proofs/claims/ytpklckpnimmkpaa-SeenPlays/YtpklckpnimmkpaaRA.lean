/-
  Contracts of bucketlineref01.Count, Xor, First, Same, Words: for every row of at most 2^20 words.
-/
import Derived.Test.YtpklckpnimmkpaaWC
import Derived.Test.YtpklckpnimmkpaaAp
import Derived.RegionTactic
namespace Go.Proofs.Ytpklckpnimmkpaa
open Go.RowKit
set_option linter.unusedVariables false
set_option maxRecDepth 4000

theorem rcnt_num (x : Nat) (hx : x < 18446744073709551616) : bits .and .u64 (x : Int) 1 = ((x % 2 : Nat) : Int) := by
  have h := u64_and_nat x 1 hx (by omega)
  rwa [nat_mask1] at h

set_option maxHeartbeats 1000000 in
theorem rcount_any (a : Option Addr) (n c : Nat) (xs : List Nat) (w : World) (h : RowAt w a n xs) (hn : n ≤ 1048576) :
    Calls Try.prog 24 #[.slice a n c] w fun e w' => e = .returned (.int .i64 ((cnt xs : Nat) : Int)) ∧ w' = w := by
  go_enter Try.func24, Try.ntmps24
  go_wp2
  go_loop [3, 4] (fun t i => ∃ k : Nat, k ≤ n ∧ i = .int .i64 k ∧ t = .int .i64 ((cnt (xs.take k) : Nat) : Int)) (fun _ i => n - (intOf i).toNat)
  case atStart => exact ⟨0, Nat.zero_le _, rfl, rfl⟩
  case round =>
    obtain ⟨k, hk, rfl, rfl⟩ := hrel
    by_cases hlt : k < n
    · obtain ⟨b, off, rfl, hc⟩ := h.at hlt
      have hcell := hc k hlt
      have hx := h.2.1.get k
      have hs := cnt_take xs k (by rw [h.1]; exact hlt)
      have hb := cnt_le (xs.take k)
      have hlen : (xs.take k).length ≤ k := List.length_take_le _ _
      have hp := pop_le (xs.getD k 0)
      have HS := hide hs
      generalize xs.getD k 0 = x at *
      generalize cnt (xs.take k) = s at *
      clear hs hc h
      go_wp2
      go_loop [3, 5] (fun t y => ∃ z q : Nat, z < 18446744073709551616 ∧ y = .int .u64 (z : Int) ∧ t = .int .i64 (q : Int) ∧ q + pop z = s + pop x) (fun _ y => (intOf y).toNat)
      case atStart => exact ⟨x, s, hx, rfl, rfl, rfl⟩
      case round =>
        obtain ⟨z, q, hz, rfl, rfl, hq⟩ := hrel
        have HQ := hide hq
        have hqb : q ≤ 200000000 := by omega
        clear hq
        by_cases hz0 : 0 < z
        · have hb1 := rcnt_num z hz
          have HP := hide (pop_step z hz)
          go_wp2
          go_round
          case rel => exact ⟨z / 2, q + z % 2, by omega, by go_num, by go_num, by have := unhide HP; have := unhide HQ; omega⟩
          case measure => simp [intOf]; omega
        · have hz1 : z = 0 := by omega
          subst hz1
          have hfin : cnt (xs.take (k + 1)) = q := by
            have h1 := unhide HS
            have h2 := unhide HQ
            rw [pop_zero] at h2
            omega
          have HF := hide hfin
          clear hfin
          go_wp2
          go_round
          case rel => exact ⟨k + 1, by omega, by go_num, by rw [unhide HF]⟩
          case measure => simp [intOf]; omega
    · go_wp2
      go_ret
      exact ⟨ret_int (by rw [List.take_of_length_le (by rw [h.1]; omega)]), rfl⟩

theorem rxor_round {w wr : World} {B g cap : Nat} {xs ys : List Nat} {k : Nat} (hx : smalls xs) (hy : smalls ys) (hk : k < xs.length) (hB : B ≤ g)
    (ho : Own wr B (.slice (some ⟨g, 0, none⟩) xs.length cap) (xorTo xs ys k)) (hb : Below B w wr) :
    Own (wr.setCell ⟨g, k, none⟩ (.int .u64 ((xs.getD k 0 ^^^ ys.getD k 0 : Nat) : Int))).drew B (.slice (some ⟨g, 0, none⟩) xs.length cap) (xorTo xs ys (k + 1)) ∧
    Below B w (wr.setCell ⟨g, k, none⟩ (.int .u64 ((xs.getD k 0 ^^^ ys.getD k 0 : Nat) : Int))).drew := by
  obtain ⟨h1, h2⟩ := xor_round hx hy hk hB ho hb
  exact ⟨⟨h1.1, h1.2.drew⟩, h2.drew⟩


end Go.Proofs.Ytpklckpnimmkpaa
