/-
  Contracts of crc.shift, crc.Sum, bucketlineref05.Sum: for every text of at most 2^20 bytes.
-/
import Derived.Test.YtpklckpnimmkpaaXA
import Derived.Test.YtpklckpnimmkpaaCM
import Derived.Laws.ShiftsVarLaws
namespace Go.Proofs.Ytpklckpnimmkpaa
open Go.RowKit
set_option linter.unusedVariables false
set_option maxRecDepth 4000

theorem low_bit (x : Nat) (hx : x < 4294967296) : bits .and .u32 (x : Int) 1 = ((x % 2 : Nat) : Int) := by
  have h := u32_and_nat x 1 hx (by decide)
  rw [Nat.and_one_is_mod] at h
  exact h
theorem step_odd (x : Nat) (hx : x < 4294967296) (h : x % 2 = 1) : bits .xor .u32 ((x : Int) / 2) 3988292384 = ((step1 x : Nat) : Int) := by
  have e := u32_xor_nat (x / 2) 3988292384 (by omega) (by decide)
  unfold step1
  rw [if_pos h, ← e]
  rfl
theorem step_even (x : Nat) (h : x % 2 = 0) : (x : Int) / 2 = ((step1 x : Nat) : Int) := by
  unfold step1
  rw [if_neg (by omega)]
  rfl

set_option maxHeartbeats 400000 in
theorem shift_any (c : Nat) (w : World) (hc : c < 4294967296) :
    Calls Try.prog 37 #[.int .u32 (c : Int)] w fun e w' => e = .returned (.int .u32 ((stepN 8 c : Nat) : Int)) ∧ w' = w := by
  go_enter Try.func37, Try.ntmps37
  go_wp2
  go_loop [0, 4] (fun t i => ∃ k x : Nat, k ≤ 8 ∧ i = .int .i64 k ∧ t = .int .u32 (x : Int) ∧ Hid (x = stepN k c)) (fun _ i => 8 - (intOf i).toNat)
  case atStart => exact ⟨0, c, by decide, rfl, rfl, hide rfl⟩
  case round =>
    obtain ⟨k, x, hk, rfl, rfl, HX⟩ := hrel
    have hx : x < 4294967296 := by rw [unhide HX]; exact stepN_lt hc k
    by_cases hlt : k < 8
    · have hlt' : (k : Int) < 8 := by omega
      have hlow := low_bit x hx
      rcases Nat.mod_two_eq_zero_or_one x with h2 | h2
      · rw [h2] at hlow
        have HS := hide (step_even x h2)
        clear h2
        go_wp2
        go_round
        case rel => exact ⟨k + 1, step1 x, by omega, by go_num, by rw [unhide HS], hide (by rw [unhide HX]; rfl)⟩
        case measure => simp [intOf]; omega
      · rw [h2] at hlow
        have hs := step_odd x hx h2
        clear h2
        go_wp2
        go_round
        case rel => exact ⟨k + 1, step1 x, by omega, by go_num, rfl, hide (by rw [unhide HX]; rfl)⟩
        case measure => simp [intOf]; omega
    · have hke : k = 8 := by omega
      have HF : Hid (stepN 8 c = x) := hide (by rw [unhide HX, hke])
      go_wp2
      go_ret
      exact ⟨ret_int (by rw [unhide HF]), rfl⟩

theorem crcF_take (c : Nat) (xs : List Nat) (k : Nat) (h : k < xs.length) : crcF c (xs.take (k + 1)) = byte1 (crcF c (xs.take k)) (xs.getD k 0) := by
  rw [List.take_add_one, crcF_append, List.getElem?_eq_getElem h, List.getD_eq_getElem?_getD, List.getElem?_eq_getElem h]
  rfl
theorem turn_all (x : Nat) (hx : x < 4294967296) : bits .xor .u32 IntKind.u32.max (x : Int) = ((x ^^^ 4294967295 : Nat) : Int) := by
  have := u32_xor_nat 4294967295 x (by decide) hx
  rw [Nat.xor_comm] at this
  exact this
/-- The sum of a text. -/
def sumS (s : ByteArray) : Nat := sumN (tx s)
theorem sumS_lt (s : ByteArray) : sumS s < 4294967296 := sumN_lt (tx_bytes s)

set_option maxHeartbeats 400000 in
theorem csum_any (s : ByteArray) (w : World) (hn : s.size ≤ 1048576) :
    Calls Try.prog 27 #[.string s] w fun e w' => e = .returned (.int .u32 ((sumS s : Nat) : Int)) ∧ w' = w := by
  go_enter Try.func27, Try.ntmps27
  go_wp2
  go_loop [3, 7] (fun t i => ∃ k x : Nat, k ≤ s.size ∧ i = .int .i64 k ∧ t = .int .u32 (x : Int) ∧ Hid (x = crcF 4294967295 ((tx s).take k))) (fun _ i => s.size - (intOf i).toNat)
  case atStart => exact ⟨0, 4294967295, Nat.zero_le _, rfl, rfl, hide rfl⟩
  case round =>
    obtain ⟨k, x, hk, rfl, rfl, HX⟩ := hrel
    have hx : x < 4294967296 := by rw [unhide HX]; exact crcF_lt (by decide) (fun y hy => tx_bytes s y (List.mem_of_mem_take hy))
    by_cases hlt : k < s.size
    · have hlt' : (k : Int) < (s.size : Int) := by omega
      have hb : s[k].toNat < 256 := s[k].toNat_lt
      have hxo := u32_xor_nat x s[k].toNat hx (by omega)
      have HN := hide (show stepN 8 (x ^^^ s[k].toNat) = crcF 4294967295 ((tx s).take (k + 1)) from by
        rw [crcF_take _ _ _ (by rw [tx_length]; exact hlt), ← unhide HX, ← tx_get s k hlt]; rfl)
      have hsx := shift_any (x ^^^ s[k].toNat) w (xor32_lt hx (by omega))
      go_wp2_with (go_at_call 37; refine hsx.mono ?_; rintro e w' ⟨rfl, hw⟩; obtain rfl := hw.symm)
      go_round
      case rel => exact ⟨k + 1, _, by omega, by go_num, rfl, HN⟩
      case measure => simp [intOf]; omega
    · have hke : k = (tx s).length := by rw [tx_length]; omega
      have HF : Hid (sumS s = x ^^^ 4294967295) := hide (by unfold sumS sumN; rw [unhide HX, hke, List.take_length])
      clear hke
      go_wp2
      go_ret
      exact ⟨ret_int (by rw [unhide HF]; exact turn_all x hx), rfl⟩

set_option maxHeartbeats 400000 in
theorem rsum_any (s : ByteArray) (w : World) (hn : s.size ≤ 1048576) :
    Calls Try.prog 29 #[.string s] w fun e w' => e = .returned (.int .u32 ((sumS s : Nat) : Int)) ∧ w' = w := by
  go_enter Try.func29, Try.ntmps29
  go_wp2
  go_loop [3, 4] (fun t i => ∃ k x : Nat, k ≤ s.size ∧ i = .int .i64 k ∧ t = .int .u32 (x : Int) ∧ Hid (x = crcF 4294967295 ((tx s).take k))) (fun _ i => s.size - (intOf i).toNat)
  case atStart => exact ⟨0, 4294967295, Nat.zero_le _, rfl, rfl, hide rfl⟩
  case round =>
    obtain ⟨k, x, hk, rfl, rfl, HX⟩ := hrel
    have hx : x < 4294967296 := by rw [unhide HX]; exact crcF_lt (by decide) (fun y hy => tx_bytes s y (List.mem_of_mem_take hy))
    by_cases hlt : k < s.size
    · have hlt' : (k : Int) < (s.size : Int) := by omega
      have hb : s[k].toNat < 256 := s[k].toNat_lt
      have hxo := u32_xor_nat x s[k].toNat hx (by omega)
      have HN := hide (show stepN 8 (x ^^^ s[k].toNat) = crcF 4294967295 ((tx s).take (k + 1)) from by
        rw [crcF_take _ _ _ (by rw [tx_length]; exact hlt), ← unhide HX, ← tx_get s k hlt]; rfl)
      have hc : x ^^^ s[k].toNat < 4294967296 := xor32_lt hx (by omega)
      go_wp2
      obtain ⟨c, hcx⟩ : ∃ c, x ^^^ s[k].toNat = c := ⟨_, rfl⟩
      rw [hcx] at hc HN
      simp only [hcx]
      clear hcx hxo
      go_loop [3, 5] (fun t i => ∃ j y : Nat, j ≤ 8 ∧ i = .int .i64 j ∧ t = .int .u32 (y : Int) ∧ Hid (y = stepN j c)) (fun _ i => 8 - (intOf i).toNat)
      case atStart => exact ⟨0, c, by decide, rfl, rfl, hide rfl⟩
      case round =>
        obtain ⟨j, y, hj, rfl, rfl, HY⟩ := hrel
        have hy : y < 4294967296 := by rw [unhide HY]; exact stepN_lt hc j
        by_cases hjl : j < 8
        · have hjl' : (j : Int) < 8 := by omega
          have hlow := low_bit y hy
          rcases Nat.mod_two_eq_zero_or_one y with h2 | h2
          · rw [h2] at hlow
            have HS := hide (step_even y h2)
            clear h2
            go_wp2
            go_round
            case rel => exact ⟨j + 1, step1 y, by omega, by go_num, by rw [unhide HS], hide (by rw [unhide HY]; rfl)⟩
            case measure => simp [intOf]; omega
          · rw [h2] at hlow
            have hs := step_odd y hy h2
            clear h2
            go_wp2
            go_round
            case rel => exact ⟨j + 1, step1 y, by omega, by go_num, rfl, hide (by rw [unhide HY]; rfl)⟩
            case measure => simp [intOf]; omega
        · have hje : j = 8 := by omega
          have HF : Hid (y = crcF 4294967295 ((tx s).take (k + 1))) := hide (by rw [unhide HY, hje, unhide HN])
          clear hje
          go_wp2
          go_round
          case rel => exact ⟨k + 1, y, by omega, by go_num, rfl, HF⟩
          case measure => simp [intOf]; omega
    · have hke : k = (tx s).length := by rw [tx_length]; omega
      have HF : Hid (sumS s = x ^^^ 4294967295) := hide (by unfold sumS sumN; rw [unhide HX, hke, List.take_length])
      clear hke
      go_wp2
      go_ret
      exact ⟨ret_int (by rw [unhide HF]; exact u32_xor_nat x 4294967295 hx (by decide)), rfl⟩
end Go.Proofs.Ytpklckpnimmkpaa
