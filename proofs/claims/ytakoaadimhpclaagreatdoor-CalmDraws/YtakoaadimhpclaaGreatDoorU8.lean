/-
  Contracts of bucketlineref01.Count, Xor, First, Same, Words: for every row of at most 2^20 words.
  Contracts of bucketlineref01.First, Same, Words, Size, Set and of words.Size, Set: for every row of at most 2^20 words, every int.
-/
import Derived.Test.YtakoaadimhpclaaGreatDoorU7
import Derived.RegionTactic
import Derived.Deep.RegionWith
namespace Go.Proofs.YtakoaadimhpclaaGreatDoor
open Go.RowKit
set_option linter.unusedVariables false
set_option linter.unusedSimpArgs false
set_option maxRecDepth 4000

theorem rcnt_num (x : Nat) (hx : x < 18446744073709551616) : bits .and .u64 (x : Int) 1 = ((x % 2 : Nat) : Int) := by
  have h := u64_and_nat x 1 hx (by omega)
  rwa [nat_mask1] at h

set_option maxHeartbeats 1000000 in
theorem rcount_any (a : Option Addr) (n c : Nat) (xs : List Nat) (w : World) (h : RowAt w a n xs) (hn : n ≤ 1048576) :
    Calls Tryz.prog 25 #[.slice a n c] w fun e w' => e = .returned (.int .i64 ((cnt xs : Nat) : Int)) ∧ w' = w := by
  go_enter Tryz.func25, Tryz.ntmps25
  go_wp2
  go_loop [3, 4] (fun t i => ∃ k : Nat, k ≤ n ∧ i = .int .i64 k ∧ t = .int .i64 ((cnt (xs.take k) : Nat) : Int)) (fun _ i => n - (intOf i).toNat)
  case atStart => exact ⟨0, Nat.zero_le _, rfl, rfl⟩
  case round =>
    obtain ⟨k, hk, rfl, rfl⟩ := hrel
    by_cases hlt : k < n
    · obtain ⟨b, off, rfl, hc⟩ := h.at hlt
      have hcell := hc k hlt
      have hx := h.2.1.get k
      have hs := cnt_take xs k (by rw [h.1]; exact hlt)
      have hb := cnt_le (xs.take k)
      have hlen : (xs.take k).length ≤ k := List.length_take_le _ _
      have hp := pop_le (xs.getD k 0)
      have HS := hide hs
      generalize xs.getD k 0 = x at *
      generalize cnt (xs.take k) = s at *
      clear hs hc h
      go_wp2
      go_loop [3, 5] (fun t y => ∃ z q : Nat, z < 18446744073709551616 ∧ y = .int .u64 (z : Int) ∧ t = .int .i64 (q : Int) ∧ q + pop z = s + pop x) (fun _ y => (intOf y).toNat)
      case atStart => exact ⟨x, s, hx, rfl, rfl, rfl⟩
      case round =>
        obtain ⟨z, q, hz, rfl, rfl, hq⟩ := hrel
        have HQ := hide hq
        have hqb : q ≤ 200000000 := by omega
        clear hq
        by_cases hz0 : 0 < z
        · have hb1 := rcnt_num z hz
          have HP := hide (pop_step z hz)
          go_wp2
          go_round
          case rel => exact ⟨z / 2, q + z % 2, by omega, by go_num, by go_num, by have := unhide HP; have := unhide HQ; omega⟩
          case measure => simp [intOf]; omega
        · have hz1 : z = 0 := by omega
          subst hz1
          have hfin : cnt (xs.take (k + 1)) = q := by
            have h1 := unhide HS
            have h2 := unhide HQ
            rw [pop_zero] at h2
            omega
          have HF := hide hfin
          clear hfin
          go_wp2
          go_round
          case rel => exact ⟨k + 1, by omega, by go_num, by rw [unhide HF]⟩
          case measure => simp [intOf]; omega
    · go_wp2
      go_ret
      exact ⟨ret_int (by rw [List.take_of_length_le (by rw [h.1]; omega)]), rfl⟩

theorem rxor_round {w wr : World} {B g cap : Nat} {xs ys : List Nat} {k : Nat} (hx : smalls xs) (hy : smalls ys) (hk : k < xs.length) (hB : B ≤ g)
    (ho : Own wr B (.slice (some ⟨g, 0, none⟩) xs.length cap) (xorTo xs ys k)) (hb : Below B w wr) :
    Own (wr.setCell ⟨g, k, none⟩ (.int .u64 ((xs.getD k 0 ^^^ ys.getD k 0 : Nat) : Int))).drew B (.slice (some ⟨g, 0, none⟩) xs.length cap) (xorTo xs ys (k + 1)) ∧
    Below B w (wr.setCell ⟨g, k, none⟩ (.int .u64 ((xs.getD k 0 ^^^ ys.getD k 0 : Nat) : Int))).drew := by
  obtain ⟨h1, h2⟩ := xor_round hx hy hk hB ho hb
  exact ⟨⟨h1.1, h1.2.drew⟩, h2.drew⟩

set_option maxHeartbeats 1000000 in
theorem rxor_any (a : Option Addr) (n c : Nat) (xs : List Nat) (a' : Option Addr) (m c' : Nat) (ys : List Nat) (w : World) (h : RowAt w a n xs) (h' : RowAt w a' m ys) (hn : n ≤ 1048576) (hm : m ≤ 1048576) :
    Calls Tryz.prog 26 #[.slice a n c, .slice a' m c'] w fun e w' => ∃ v, e = .returned v ∧ Own w' w.heap.size v (xorL xs ys) ∧ Below w.heap.size w w' := by
  obtain rfl : n = xs.length := h.1.symm
  obtain rfl : m = ys.length := h'.1.symm
  by_cases hsw : xs.length < ys.length
  · have hge : ((xs.length : Int) < (ys.length : Int)) := by omega
    go_enter Tryz.func26, Tryz.ntmps26
    go_wp2_with (first | (at_builtin; refine wpList_append_nil rfl _ _ rfl a' ys.length c' ys rfl rfl h' (by omega) ?_; intro v w1 ho hb))
    go_loopw [6] (fun i wr => ∃ k : Nat, k ≤ xs.length ∧ i = .int .i64 k ∧ Hid (Own wr w.heap.size v (xorTo ys xs k)) ∧ Hid (Below w.heap.size w wr)) (fun i _ => xs.length - (intOf i).toNat)
    case atStart => exact ⟨0, Nat.zero_le _, rfl, hide (by rw [xorTo_zero]; exact ho), hide hb⟩
    case round =>
      obtain ⟨k, hk, rfl, HO, HB⟩ := hrel
      clear ho hb
      by_cases hlt : k < xs.length
      · obtain ⟨b', off', rfl, hc'⟩ := (h.below (unhide HB)).at hlt
        have hkn : k < ys.length := by omega
        have hkn' : (k : Int) < (ys.length : Int) := by omega
        have hlt' : (k : Int) < (xs.length : Int) := by omega
        obtain ⟨g, cap, rfl, hBg, hgs, hcg, hfg⟩ := (unhide HO).at (by rw [xorTo_length]; omega)
        have hcell' := hc' k hlt
        have hcell := hcg k (by rw [xorTo_length]; omega)
        have hfz := hfg k
        rw [xorTo_getD ys xs k k (by omega), if_neg (by omega)] at hcell
        have hxo := u64_xor_nat (ys.getD k 0) (xs.getD k 0) (h'.2.1.get k) (h.2.1.get k)
        rw [xorTo_length] at HO
        have R := hide (rxor_round h'.2.1 h.2.1 (by omega) hBg (unhide HO) (unhide HB))
        rw [xorTo_length]
        generalize ys.getD k 0 = x at *
        generalize xs.getD k 0 = y at *
        clear hc' hcg hfg h h' HO
        go_wp2
        go_region
        all_goals go_wp2
        go_roundw
        case rel => exact ⟨k + 1, by omega, by go_num, hide (unhide R).1, hide (unhide R).2⟩
        case measure => simp [intOf]; omega
      · have hke : k = xs.length := by omega
        subst hke
        rw [xorTo_all ys xs (by omega)] at HO
        clear h h'
        go_wp2
        go_ret
        exact ⟨_, rfl, by rw [xorL_comm]; exact unhide HO, unhide HB⟩
  · have hge : ¬ ((xs.length : Int) < (ys.length : Int)) := by omega
    go_enter Tryz.func26, Tryz.ntmps26
    go_wp2_with (first | (at_builtin; refine wpList_append_nil rfl _ _ rfl a xs.length c xs rfl rfl h (by omega) ?_; intro v w1 ho hb))
    go_loopw [6] (fun i wr => ∃ k : Nat, k ≤ ys.length ∧ i = .int .i64 k ∧ Hid (Own wr w.heap.size v (xorTo xs ys k)) ∧ Hid (Below w.heap.size w wr)) (fun i _ => ys.length - (intOf i).toNat)
    case atStart => exact ⟨0, Nat.zero_le _, rfl, hide (by rw [xorTo_zero]; exact ho), hide hb⟩
    case round =>
      obtain ⟨k, hk, rfl, HO, HB⟩ := hrel
      clear ho hb
      by_cases hlt : k < ys.length
      · obtain ⟨b', off', rfl, hc'⟩ := (h'.below (unhide HB)).at hlt
        have hkn : k < xs.length := by omega
        have hkn' : (k : Int) < (xs.length : Int) := by omega
        have hlt' : (k : Int) < (ys.length : Int) := by omega
        obtain ⟨g, cap, rfl, hBg, hgs, hcg, hfg⟩ := (unhide HO).at (by rw [xorTo_length]; omega)
        have hcell' := hc' k hlt
        have hcell := hcg k (by rw [xorTo_length]; omega)
        have hfz := hfg k
        rw [xorTo_getD xs ys k k (by omega), if_neg (by omega)] at hcell
        have hxo := u64_xor_nat (xs.getD k 0) (ys.getD k 0) (h.2.1.get k) (h'.2.1.get k)
        rw [xorTo_length] at HO
        have R := hide (rxor_round h.2.1 h'.2.1 (by omega) hBg (unhide HO) (unhide HB))
        rw [xorTo_length]
        generalize xs.getD k 0 = x at *
        generalize ys.getD k 0 = y at *
        clear hc' hcg hfg h h' HO
        go_wp2
        go_region
        all_goals go_wp2
        go_roundw
        case rel => exact ⟨k + 1, by omega, by go_num, hide (unhide R).1, hide (unhide R).2⟩
        case measure => simp [intOf]; omega
      · have hke : k = ys.length := by omega
        subst hke
        rw [xorTo_all xs ys (by omega)] at HO
        clear h h'
        go_wp2
        go_ret
        exact ⟨_, rfl, unhide HO, unhide HB⟩

end Go.Proofs.YtakoaadimhpclaaGreatDoor
namespace Go.Proofs.YtakoaadimhpclaaGreatDoor
open Go.RowKit
set_option linter.unusedVariables false
set_option linter.unusedSimpArgs false
set_option maxRecDepth 4000

set_option maxHeartbeats 400000 in
theorem rsame_any (a : Option Addr) (n c : Nat) (xs : List Nat) (a' : Option Addr) (m c' : Nat) (ys : List Nat) (w : World) (h : RowAt w a n xs) (h' : RowAt w a' m ys) (hn : n ≤ 1048576) (hm : m ≤ 1048576) :
    Calls Tryz.prog 10 #[.slice a n c, .slice a' m c'] w fun e w' => e = .returned (.bool (decide (cnt (xorL xs ys) = 0))) ∧ Below w.heap.size w w' := by
  go_enter Tryz.func10, Tryz.ntmps10
  go_wp2_with fail
  refine (rxor_any a n c xs a' m c' ys _ h h' hn hm).mono ?_
  rintro e w1 ⟨v, rfl, ho, hb⟩
  obtain ⟨a1, c1, rfl, hr⟩ := ho.row
  have hl : (xorL xs ys).length ≤ 1048576 := by rw [xorL_length, h.1, h'.1]; omega
  go_wp2_with fail
  refine (rcount_any a1 _ c1 _ _ hr hl).mono ?_
  rintro e w2 ⟨rfl, rfl⟩
  have he : ∀ q : Nat, ((q : Int) == 0) = decide (q = 0) := fun q => by
    by_cases e : q = 0
    · subst e; rfl
    · simp [e]
  have HE := hide (he (cnt (xorL xs ys)))
  clear he
  go_wp2
  go_ret
  exact ⟨ret_bool (unhide HE), hb⟩

def sizeOfK (k : Int) : Nat := if k < 1 ∨ 128 < k then 0 else ((k + 63) / 64).toNat
set_option maxHeartbeats 400000 in
theorem size_any (k : Int) (w : World) :
    Calls Tryz.prog 44 #[.int .i64 k] w fun e w' => e = .returned (.int .i64 ((sizeOfK k : Nat) : Int)) ∧ w' = w := by
  by_cases h1 : k < 1
  · have e : sizeOfK k = 0 := by unfold sizeOfK; rw [if_pos (.inl h1)]
    rw [e]
    go_enter Tryz.func44, Tryz.ntmps44
    go_wp2
    go_ret
    exact ⟨rfl, rfl⟩
  · by_cases h2 : 128 < k
    · have e : sizeOfK k = 0 := by unfold sizeOfK; rw [if_pos (.inr h2)]
      rw [e]
      go_enter Tryz.func44, Tryz.ntmps44
      go_wp2
      go_ret
      exact ⟨rfl, rfl⟩
    · have e : ((sizeOfK k : Nat) : Int) = (k + 64 - 1) / 64 := by unfold sizeOfK; rw [if_neg (by omega)]; omega
      have HE := hide e
      clear e
      go_enter Tryz.func44, Tryz.ntmps44
      go_wp2
      go_ret
      exact ⟨ret_int (unhide HE).symm, rfl⟩
set_option maxHeartbeats 400000 in
theorem rsize_any (k : Int) (w : World) :
    Calls Tryz.prog 27 #[.int .i64 k] w fun e w' => e = .returned (.int .i64 ((sizeOfK k : Nat) : Int)) ∧ w' = w := by
  by_cases h1 : k < 1
  · have e : sizeOfK k = 0 := by unfold sizeOfK; rw [if_pos (.inl h1)]
    rw [e]
    go_enter Tryz.func27, Tryz.ntmps27
    go_wp2
    go_ret
    exact ⟨rfl, rfl⟩
  · by_cases h2 : 128 < k
    · have e : sizeOfK k = 0 := by unfold sizeOfK; rw [if_pos (.inr h2)]
      rw [e]
      go_enter Tryz.func27, Tryz.ntmps27
      go_wp2
      go_ret
      exact ⟨rfl, rfl⟩
    · have e : ((sizeOfK k : Nat) : Int) = (k + 64 - 1) / 64 := by unfold sizeOfK; rw [if_neg (by omega)]; omega
      have HE := hide e
      clear e
      go_enter Tryz.func27, Tryz.ntmps27
      go_wp2
      go_loop [3] (fun t => ∃ q : Nat, 64 * ((q : Int) - 1) < k ∧ t = .int .i64 (q : Int)) (fun t => 10 - (intOf t).toNat)
      case atStart => exact ⟨0, by omega, rfl⟩
      case round =>
        obtain ⟨q, hq, rfl⟩ := hrel
        by_cases hl : 64 * (q : Int) < k
        · go_wp2
          go_round
          case rel => exact ⟨q + 1, by omega, by go_num⟩
          case measure => simp [intOf]; omega
        · go_wp2
          go_ret
          exact ⟨ret_int (by rw [unhide HE]; omega), rfl⟩
end Go.Proofs.YtakoaadimhpclaaGreatDoor
