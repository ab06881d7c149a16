/-
  Contracts of nums.known, nums.number (of at most 8 bytes), nums.Get, bucketlineref06.width, Get: for every text and every int.
-/
import Derived.Test.YtjgckchddllinaaDoorNM
namespace Go.Proofs.YtjgckchddllinaaDoor
open Go.RowKit
set_option linter.unusedVariables false

/-- A width that numbers have. -/
def isW (k : Int) : Prop := k = 1 ∨ k = 2 ∨ k = 4
theorem isW_cases {k : Int} (h : isW k) : ∃ W : Nat, k = (W : Int) ∧ (W = 1 ∨ W = 2 ∨ W = 4) := by
  rcases h with rfl | rfl | rfl
  · exact ⟨1, rfl, .inl rfl⟩
  · exact ⟨2, rfl, .inr (.inl rfl)⟩
  · exact ⟨4, rfl, .inr (.inr rfl)⟩
theorem not_isW {k : Int} (h : ¬ isW k) : (k == 1) = false ∧ (k == 2) = false ∧ (k == 4) = false := by
  unfold isW at h
  simp only [beq_eq_false_iff_ne, ne_eq]
  omega

set_option maxHeartbeats 400000 in
theorem known_yes (k : Int) (h : isW k) (w : World) : Calls Tryd.prog 46 #[.int .i64 k] w fun e w' => e = .returned (.bool true) ∧ w' = w := by
  rcases h with rfl | rfl | rfl
  all_goals
    go_enter Tryd.func46, Tryd.ntmps46
    go_wp2
    go_ret
    exact ⟨rfl, rfl⟩
set_option maxHeartbeats 400000 in
theorem known_no (k : Int) (h : ¬ isW k) (w : World) : Calls Tryd.prog 46 #[.int .i64 k] w fun e w' => e = .returned (.bool false) ∧ w' = w := by
  obtain ⟨h1, h2, h3⟩ := not_isW h
  clear h
  go_enter Tryd.func46, Tryd.ntmps46
  go_wp2
  go_ret
  exact ⟨rfl, rfl⟩
set_option maxHeartbeats 400000 in
theorem rwidth_yes (k : Int) (h : isW k) (w : World) : Calls Tryd.prog 50 #[.int .i64 k] w fun e w' => e = .returned (.bool true) ∧ w' = w := by
  rcases h with rfl | rfl | rfl
  all_goals
    go_enter Tryd.func50, Tryd.ntmps50
    go_wp2
    go_ret
    exact ⟨rfl, rfl⟩
set_option maxHeartbeats 400000 in
theorem rwidth_no (k : Int) (h : ¬ isW k) (w : World) : Calls Tryd.prog 50 #[.int .i64 k] w fun e w' => e = .returned (.bool false) ∧ w' = w := by
  obtain ⟨h1, h2, h3⟩ := not_isW h
  clear h
  go_enter Tryd.func50, Tryd.ntmps50
  go_wp2
  go_ret
  exact ⟨rfl, rfl⟩

theorem num_take {xs : List Nat} {k : Nat} (hk : k < xs.length) : num (xs.take (k + 1)) = num (xs.take k) * 256 + xs.getD k 0 := by rw [take_get hk, num_snoc]
theorem num_take_lt {xs : List Nat} (h : bytes xs) (k : Nat) : num (xs.take k) < 256 ^ k := num_lt_of (bytes_take h k) (List.length_take_le ..)

set_option maxHeartbeats 1000000 in
theorem number_any (s : ByteArray) (hs : s.size ≤ 8) (w : World) :
    Calls Tryd.prog 83 #[.string s] w fun e w' => e = .returned (.int .u64 ((num (tx s) : Nat) : Int)) ∧ w' = w := by
  have hl := tx_length s
  have hb := tx_bytes s
  go_enter Tryd.func83, Tryd.ntmps83
  go_wp2
  go_loop [3, 7] (fun t i => ∃ k x : Nat, k ≤ s.size ∧ i = .int .i64 k ∧ t = .int .u64 (x : Int) ∧ Hid (x = num ((tx s).take k))) (fun _ i => s.size - (intOf i).toNat)
  case atStart => exact ⟨0, 0, Nat.zero_le _, rfl, rfl, hide (by simp [num])⟩
  case round =>
    obtain ⟨k, x, hk, rfl, rfl, HX⟩ := hrel
    by_cases hlt : k < s.size
    · have hget := tx_get s k hlt
      have hb1 := hb.get k
      have hn := num_take_lt hb k
      have hn2 : x < 72057594037927936 := by
        rw [unhide HX]
        exact Nat.lt_of_lt_of_le hn (Nat.pow_le_pow_right (n := 256) (by decide) (show k ≤ 7 by omega))
      have HS := hide (num_take (xs := tx s) (k := k) (by omega))
      have HP := hide (push_num x _ hn2 hb1)
      generalize (tx s).getD k 0 = b at *
      clear hn hl hb
      go_wp2
      go_round
      case rel => exact ⟨k + 1, x * 256 + b, by omega, by go_num, by rw [unhide HP], hide (by rw [unhide HS, unhide HX])⟩
      case measure => simp [intOf]; omega
    · have hke : k = s.size := by omega
      subst hke
      rw [← hl, List.take_length] at HX
      go_wp2
      go_ret
      exact ⟨ret_int (by rw [unhide HX]), rfl⟩

theorem tx_cut (s : ByteArray) (a b : Nat) : tx (s.extract a b) = ((tx s).drop a).take (b - a) := by
  unfold tx
  rw [ByteArray.data_extract, Array.toList_extract, List.extract_eq_take_drop, List.map_take, List.map_drop]
/-- The number that s begins with, and the error. -/
def gN (s : ByteArray) (k : Int) : Nat := if (k = 1 ∨ k = 2 ∨ k = 4) ∧ k ≤ (s.size : Int) then num ((tx s).take k.toNat) else 0
def gE (s : ByteArray) (k : Int) : Nat := if ¬ (k = 1 ∨ k = 2 ∨ k = 4) then 1 else if (s.size : Int) < k then 2 else 0
theorem g_no {s : ByteArray} {k : Int} (h : ¬ isW k) : gN s k = 0 ∧ gE s k = 1 := by
  unfold gN gE
  exact ⟨if_neg fun h1 => h h1.1, if_pos h⟩
theorem g_short {s : ByteArray} {k : Int} (h : isW k) (h1 : (s.size : Int) < k) : gN s k = 0 ∧ gE s k = 2 := by
  unfold gN gE
  exact ⟨if_neg fun h2 => by omega, by rw [if_neg (fun h2 => h2 h), if_pos h1]⟩
theorem g_yes {s : ByteArray} {k : Int} (h : isW k) (h1 : k ≤ (s.size : Int)) : gN s k = num ((tx s).take k.toNat) ∧ gE s k = 0 := by
  unfold gN gE
  exact ⟨if_pos ⟨h, h1⟩, by rw [if_neg (fun h2 => h2 h), if_neg (by omega)]⟩
theorem ret2 {k k' : IntKind} {a a' b b' : Int} (h : a = a') (h' : b = b') : Ending.returned (.tuple #[.int k a, .int k' b]) = .returned (.tuple #[.int k a', .int k' b']) := by rw [h, h']

set_option maxHeartbeats 1000000 in
theorem get_num_any (s : ByteArray) (k : Int) (w : World) :
    Calls Tryd.prog 69 #[.string s, .int .i64 k] w fun e w' => e = .returned (.tuple #[.int .i64 ((gN s k : Nat) : Int), .int .i64 ((gE s k : Nat) : Int)]) ∧ w' = w := by
  by_cases h : isW k
  · by_cases h1 : (s.size : Int) < k
    · obtain ⟨e1, e2⟩ := g_short h h1
      rw [e1, e2]
      have HK := hide (fun wx => known_yes k h wx)
      clear h e1 e2
      go_enter Tryd.func69, Tryd.ntmps69
      go_wp2_with (go_at_call 46; refine (unhide HK _).mono ?_; rintro e w' ⟨rfl, rfl⟩)
      go_ret2
      exact ⟨rfl, rfl⟩
    · obtain ⟨e1, e2⟩ := g_yes (s := s) h (by omega)
      rw [e1, e2]
      have HK := hide (fun wx => known_yes k h wx)
      obtain ⟨W, rfl, hW⟩ := isW_cases h
      have hsz : (s.extract 0 W).size = W := by rw [ByteArray.size_extract]; omega
      have HN := hide (fun wx => number_any (s.extract 0 W) (by omega) wx)
      have HT := hide (show num (tx (s.extract 0 W)) = num ((tx s).take W) by rw [tx_cut]; rfl)
      have hlt : num (tx (s.extract 0 W)) < 256 ^ 4 := num_lt_of (tx_bytes _) (by rw [tx_length]; omega)
      generalize num (tx (s.extract 0 W)) = x at *
      clear h e1 e2 hsz hW
      go_enter Tryd.func69, Tryd.ntmps69
      go_wp2_with (first | (go_at_call 46; refine (unhide HK _).mono ?_; rintro e w' ⟨rfl, rfl⟩) | (go_at_call 83; refine (unhide HN _).mono ?_; rintro e w' ⟨rfl, rfl⟩))
      go_ret2
      rw [Int.toNat_natCast]
      exact ⟨ret2 (by rw [← unhide HT]) rfl, rfl⟩
  · obtain ⟨e1, e2⟩ := g_no (s := s) h
    rw [e1, e2]
    have HK := hide (fun wx => known_no k h wx)
    clear h e1 e2
    go_enter Tryd.func69, Tryd.ntmps69
    go_wp2_with (go_at_call 46; refine (unhide HK _).mono ?_; rintro e w' ⟨rfl, rfl⟩)
    go_ret2
    exact ⟨rfl, rfl⟩

set_option maxHeartbeats 1000000 in
theorem rget_num_any (s : ByteArray) (k : Int) (w : World) :
    Calls Tryd.prog 35 #[.string s, .int .i64 k] w fun e w' => e = .returned (.tuple #[.int .i64 ((gN s k : Nat) : Int), .int .i64 ((gE s k : Nat) : Int)]) ∧ w' = w := by
  by_cases h : isW k
  · by_cases h1 : (s.size : Int) < k
    · obtain ⟨e1, e2⟩ := g_short h h1
      rw [e1, e2]
      have HK := hide (fun wx => rwidth_yes k h wx)
      clear h e1 e2
      go_enter Tryd.func35, Tryd.ntmps35
      go_wp2_with (go_at_call 50; refine (unhide HK _).mono ?_; rintro e w' ⟨rfl, rfl⟩)
      go_ret2
      exact ⟨rfl, rfl⟩
    · obtain ⟨e1, e2⟩ := g_yes (s := s) h (by omega)
      rw [e1, e2]
      have HK := hide (fun wx => rwidth_yes k h wx)
      obtain ⟨W, rfl, hW⟩ := isW_cases h
      rw [Int.toNat_natCast]
      have hl := tx_length s
      have hb := tx_bytes s
      clear h e1 e2
      go_enter Tryd.func35, Tryd.ntmps35
      go_wp2_with (go_at_call 50; refine (unhide HK _).mono ?_; rintro e w' ⟨rfl, rfl⟩)
      go_loop [6, 7] (fun t i => ∃ k x : Nat, k ≤ W ∧ i = .int .i64 k ∧ t = .int .i64 (x : Int) ∧ Hid (x = num ((tx s).take k))) (fun _ i => W - (intOf i).toNat)
      case atStart => exact ⟨0, 0, Nat.zero_le _, rfl, rfl, hide (by simp [num])⟩
      case round =>
        obtain ⟨k, x, hk, rfl, rfl, HX⟩ := hrel
        by_cases hlt : k < W
        · have hks : k < s.size := by omega
          have hget := tx_get s k hks
          have hb1 := hb.get k
          have hn := num_take_lt hb k
          have hn2 : x < 4294967296 := by
            rw [unhide HX]
            exact Nat.lt_of_lt_of_le hn (Nat.pow_le_pow_right (n := 256) (by decide) (show k ≤ 4 by omega))
          have HS := hide (num_take (xs := tx s) (k := k) (by omega))
          generalize (tx s).getD k 0 = b at *
          clear hn hl hb
          go_wp2
          go_round
          case rel => exact ⟨k + 1, x * 256 + b, by omega, by go_num, by go_num, hide (by rw [unhide HS, unhide HX])⟩
          case measure => simp [intOf]; omega
        · have hke : k = W := by omega
          subst hke
          go_wp2
          go_ret2
          exact ⟨ret2 (by rw [unhide HX]) rfl, rfl⟩
  · obtain ⟨e1, e2⟩ := g_no (s := s) h
    rw [e1, e2]
    have HK := hide (fun wx => rwidth_no k h wx)
    clear h e1 e2
    go_enter Tryd.func35, Tryd.ntmps35
    go_wp2_with (go_at_call 50; refine (unhide HK _).mono ?_; rintro e w' ⟨rfl, rfl⟩)
    go_ret2
    exact ⟨rfl, rfl⟩
end Go.Proofs.YtjgckchddllinaaDoor
