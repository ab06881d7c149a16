/-
  Contract of bucketlineref01.Ints, of equal slices of at most 2^20 ints.
  Contracts of bucketlinelaw10.few, soliton.Sum, bucketlineref10.Sum, soliton.Pick, bucketlineref10.Pick: for shares whose sum is at most 2^62.
-/
import Derived.Test.YtakoaadimhpclaaGreatDoorU3
namespace Go.Proofs.YtakoaadimhpclaaGreatDoor
open Go.RowKit
set_option linter.unusedVariables false
set_option linter.unusedSimpArgs false
set_option maxRecDepth 4000

set_option maxHeartbeats 1000000 in
theorem intz_any (a : Option Addr) (n c : Nat) (xs : List Int) (a' : Option Addr) (m c' : Nat) (ys : List Int) (w : World) (h : IntzAt w a n xs) (h' : IntzAt w a' m ys) (he : xs = ys) (hn : n ≤ 1048576) :
    Calls Tryz.prog 16 #[.slice a n c, .slice a' m c'] w fun e w' => e = .returned (.bool true) ∧ Below w.heap.size w w' := by
  subst he
  obtain rfl : n = xs.length := h.1.symm
  obtain rfl : m = xs.length := h'.1.symm
  go_enter Tryz.func16, Tryz.ntmps16
  go_wp2
  go_loopw [5] (fun i wr => ∃ k : Nat, k ≤ xs.length ∧ i = .int .i64 k ∧ Hid (Below w.heap.size w wr)) (fun i _ => xs.length - (intOf i).toNat)
  case atStart => exact ⟨0, Nat.zero_le _, rfl, hide (Below.refl _ _)⟩
  case round =>
    obtain ⟨k, hk, rfl, HB⟩ := hrel
    have hB := unhide HB
    by_cases hlt : k < xs.length
    · obtain ⟨b, off, rfl, hc⟩ := (h.below hB).at hlt
      have hcell := hc k hlt
      obtain ⟨b2, off2, rfl, hc2⟩ := (h'.below hB).at hlt
      have hcell2 := hc2 k hlt
      clear hc hc2 h h'
      generalize xs.getD k 0 = x at *
      go_wp2_with fail
      go_quiet (fail)
      go_wp2
      go_roundw
      case rel => exact ⟨k + 1, by omega, by go_num, hide (below_drewN (unhide HB) _)⟩
      case measure => simp [intOf]; omega
    · clear h h'
      go_wp2
      go_ret
      exact ⟨rfl, unhide HB⟩
end Go.Proofs.YtakoaadimhpclaaGreatDoor
namespace Go.Proofs.YtakoaadimhpclaaGreatDoor
open Go.RowKit
set_option linter.unusedVariables false
set_option linter.unusedSimpArgs false
set_option maxRecDepth 4000

set_option maxHeartbeats 400000 in
theorem zsum_any (a : Option Addr) (n c : Nat) (xs : List Int) (w : World) (h : IntzAt w a n xs) (hn : n ≤ 1048576) (hs : sumZ xs ≤ 4611686018427387904) :
    Calls Tryz.prog 40 #[.slice a n c] w fun e w' => e = .returned (.int .i64 ((sumZ xs : Nat) : Int)) ∧ w' = w := by
  obtain rfl : n = xs.length := h.1.symm
  obtain ⟨S, hS⟩ : ∃ S, sumZ xs = S := ⟨_, rfl⟩
  have HE := hide (show sumZ (xs.take xs.length) = S by rw [List.take_length]; exact hS)
  have HL := hide (fun k => Nat.le_trans (sumZ_take_le xs k) (Nat.le_of_eq hS))
  have HT := hide (fun k hk => sumZ_take xs k hk)
  rw [hS] at hs ⊢
  clear hS
  go_enter Tryz.func40, Tryz.ntmps40
  go_wp2
  go_loop [3, 8] (fun t i => ∃ k q : Nat, k ≤ xs.length ∧ i = .int .i64 k ∧ t = .int .i64 (q : Int) ∧ Hid (q = sumZ (xs.take k))) (fun _ i => xs.length - (intOf i).toNat)
  case atStart => exact ⟨0, 0, Nat.zero_le _, rfl, rfl, hide rfl⟩
  case round =>
    obtain ⟨k, q, hk, rfl, rfl, HQ⟩ := hrel
    by_cases hlt : k < xs.length
    · obtain ⟨b, off, rfl, hc⟩ := h.at hlt
      have hcell := hc k hlt
      have ht := unhide HT k hlt
      have hle := unhide HL (k + 1)
      rw [← unhide HQ] at ht
      rw [ht] at hle
      have HQ1 := hide ht
      clear hc h HT HL HE HQ ht
      generalize xs.getD k 0 = x at *
      have hm := max0_run x
      generalize x.toNat = z at *
      go_wp2
      go_round
      case rel => exact ⟨k + 1, q + z, by omega, by go_num, by go_num, hide (unhide HQ1).symm⟩
      case measure => simp [intOf]; omega
    · obtain rfl : k = xs.length := by omega
      have HR := hide ((unhide HQ).trans (unhide HE))
      clear h HT HL HE HQ
      go_wp2
      go_ret
      exact ⟨ret_int (by rw [unhide HR]), rfl⟩

theorem getZ_le (l : List Int) (k : Nat) (hk : k < l.length) : (l.getD k 0).toNat ≤ sumZ l := by
  have h1 := sumZ_take l k hk
  have h2 := sumZ_take_le l (k + 1)
  omega

set_option maxHeartbeats 400000 in
theorem zpick_any (a : Option Addr) (n c : Nat) (xs : List Int) (draw : Nat) (w : World) (h : IntzAt w a n xs) (hn : n ≤ 1048576) (hs : sumZ xs ≤ 4611686018427387904) (hd : draw < 18446744073709551616) :
    Calls Tryz.prog 18 #[.slice a n c, .int .u64 (draw : Int)] w fun e w' => e = .returned (.int .i64 ((pickD xs draw : Nat) : Int)) ∧ w' = w := by
  have HS := hide (zsum_any a n c xs w h hn hs)
  obtain rfl : n = xs.length := h.1.symm
  obtain ⟨S, hS⟩ : ∃ S, sumZ xs = S := ⟨_, rfl⟩
  obtain ⟨R, hR⟩ : ∃ R, pickD xs draw = R := ⟨_, rfl⟩
  have H0 := hide (fun (h0 : S = 0) => hR.symm.trans (pickD_none (hS.trans h0) draw))
  have H1 := hide (fun (h1 : S ≠ 0) => hR.symm.trans (pickD_some (by rw [hS]; exact h1) draw))
  have HV := hide (fun k hk => Nat.le_trans (getZ_le xs k hk) (Nat.le_of_eq hS))
  rw [hS] at hs HS H1
  rw [hR]
  clear hS hR
  by_cases hz : S = 0
  · subst hz
    have HR := hide (unhide H0 rfl)
    clear H0 H1 h
    go_enter Tryz.func18, Tryz.ntmps18
    go_wp2_with (go_at_call 40; refine (unhide HS).mono ?_; rintro e w1 ⟨rfl, hw⟩; obtain rfl := hw.symm)
    go_ret
    exact ⟨ret_int (by rw [unhide HR]; rfl), rfl⟩
  · have HR := hide (unhide H1 hz)
    have hml : draw % S < S := Nat.mod_lt _ (by omega)
    have hmz : (draw : Int) % (S : Int) = ((draw % S : Nat) : Int) := by simp
    have hze : ((S : Int) == 0) = false := by simp; omega
    clear H0 H1
    generalize draw % S = x0 at *
    go_enter Tryz.func18, Tryz.ntmps18
    go_wp2_with (go_at_call 40; refine (unhide HS).mono ?_; rintro e w1 ⟨rfl, hw⟩; obtain rfl := hw.symm)
    go_loop [6, 20] (fun t i => ∃ k x : Nat, k ≤ xs.length ∧ i = .int .i64 k ∧ t = .int .u64 (x : Int) ∧ x ≤ x0 ∧ Hid (R = pickZ (xs.drop k) k x)) (fun _ i => xs.length - (intOf i).toNat)
    case atStart => exact ⟨0, x0, Nat.zero_le _, rfl, by first | rfl | rw [hmz], Nat.le_refl _, hide (unhide HR)⟩
    case round =>
      obtain ⟨k, x, hk, rfl, rfl, hx, HQ⟩ := hrel
      by_cases hlt : k < xs.length
      · obtain ⟨b, off, rfl, hc⟩ := h.at hlt
        have hcell := hc k hlt
        have HY := hide (fun hh => (unhide HQ).trans (pickZ_yes xs k x hlt hh))
        have HN := hide (fun hh => (unhide HQ).trans (pickZ_no xs k x hlt hh))
        clear hc h HQ HR HS
        have hsz := unhide HV k hlt
        clear HV
        generalize xs.getD k 0 = y at *
        have hm := max0_run y
        generalize y.toNat = z at *
        by_cases hxz : x < z
        · have HR := hide (unhide HY hxz)
          clear HY HN
          go_wp2
          go_ret
          exact ⟨ret_int (by rw [unhide HR]; go_num), rfl⟩
        · have HR := hide (unhide HN hxz)
          clear HY HN
          go_wp2
          go_round
          case rel => exact ⟨k + 1, x - z, by omega, by go_num, by go_num, by omega, HR⟩
          case measure => simp [intOf]; omega
      · obtain rfl : k = xs.length := by omega
        have HR := hide ((unhide HQ).trans (pickZ_end xs _ _))
        clear h HQ HS
        go_wp2
        go_ret
        exact ⟨ret_int (by rw [unhide HR]; rfl), rfl⟩

end Go.Proofs.YtakoaadimhpclaaGreatDoor
