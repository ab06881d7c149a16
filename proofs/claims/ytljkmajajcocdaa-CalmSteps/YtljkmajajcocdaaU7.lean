/-
  Contracts of split.Plan and bucketlineref09.Plan: for every two ints. Of bucketlineref02.Texts: for every two slices of texts.
-/
import Derived.Test.YtljkmajajcocdaaU5
import Derived.OwnWalk
import Derived.Deep.QuietTactic
import Derived.BigQuiet
namespace Go.Proofs.Ytljkmajajcocdaa
open Go.RowKit
set_option linter.unusedVariables false
set_option linter.unusedSimpArgs false
set_option maxRecDepth 4000

theorem ret_two {k k' : IntKind} {a b c d : Int} (h : a = c) (h' : b = d) : Ending.returned (.tuple #[.int k a, .int k' b]) = .returned (.tuple #[.int k c, .int k' d]) := by rw [h, h']
theorem kc_yes {n z : Nat} (h : 0 < n % z ∨ n / z = 0) : kc n z = n / z + 1 := if_pos h
theorem kc_no {n z : Nat} (h : ¬ (0 < n % z ∨ n / z = 0)) : kc n z = n / z := if_neg h

set_option maxHeartbeats 400000 in
theorem plan_any (n z : Int) (w : World) (hn : n ≤ 9223372036854775807) :
    Calls Try.prog 29 #[.int .i64 n, .int .i64 z] w fun e w' => e = .returned (.tuple #[.int .i64 (planK n z), .int .i64 (planE n z)]) ∧ w' = w := by
  by_cases h : n < 0 ∨ z < 1 ∨ 64 < z
  · rw [(plan_arg h).1, (plan_arg h).2]
    by_cases h1 : n < 0
    · clear h
      go_enter Try.func29, Try.ntmps29
      go_wp2
      go_ret2
      exact ⟨rfl, rfl⟩
    · by_cases h2 : z < 1
      · clear h
        go_enter Try.func29, Try.ntmps29
        go_wp2
        go_ret2
        exact ⟨rfl, rfl⟩
      · have h3 : 64 < z := by omega
        clear h
        go_enter Try.func29, Try.ntmps29
        go_wp2
        go_ret2
        exact ⟨rfl, rfl⟩
  · obtain ⟨N, rfl⟩ : ∃ N : Nat, n = (N : Int) := ⟨n.toNat, by omega⟩
    obtain ⟨Z, rfl⟩ : ∃ Z : Nat, z = (Z : Int) := ⟨z.toNat, by omega⟩
    have hz1 : 1 ≤ Z := by omega
    have hz2 : Z ≤ 64 := by omega
    have hz0 : (1 : Int) ≤ (Z : Int) := by omega
    have hz3 : (Z : Int) ≤ 64 := by omega
    have hn0 : (0 : Int) ≤ (N : Int) := by omega
    have eq : (N : Int) / (Z : Int) = ((N / Z : Nat) : Int) := by simp
    have er : (N : Int) % (Z : Int) = ((N % Z : Nat) : Int) := by simp
    have hq : N / Z ≤ N := Nat.div_le_self _ _
    have hqr : N / Z + N % Z ≤ N := by
      have h1 := Nat.div_add_mod N Z
      have h2 := Nat.le_mul_of_pos_left (N / Z) (show 0 < Z by omega)
      omega
    have HY := hide (fun h => kc_yes (n := N) (z := Z) h)
    have HN := hide (fun h => kc_no (n := N) (z := Z) h)
    have HO := hide (fun h => plan_ok (n := N) hz1 hz2 h)
    have HS := hide (fun h => plan_size (n := N) hz1 hz2 h)
    generalize kc N Z = k at *
    obtain ⟨E0, hE0⟩ : ∃ E0, planE (N : Int) (Z : Int) = E0 := ⟨_, rfl⟩
    obtain ⟨K0, hK0⟩ : ∃ K0, planK (N : Int) (Z : Int) = K0 := ⟨_, rfl⟩
    rw [hE0, hK0]
    rw [hE0, hK0] at HO HS
    clear h hE0 hK0
    generalize N / Z = q at *
    generalize N % Z = r at *
    by_cases hr : 0 < r
    · have hkk := unhide HY (.inl hr)
      have HK := hide hkk
      by_cases hbig : 128 < q + 1
      · have hbi : (128 : Int) < (q : Int) + 1 := by omega
        have HR := hide (unhide HS (by omega))
        clear HY HN HO HS hkk
        go_enter Try.func29, Try.ntmps29
        go_wp2
        go_ret2
        exact ⟨ret_two (unhide HR).2.symm (unhide HR).1.symm, rfl⟩
      · have HR := hide (unhide HO (by omega))
        clear HY HN HO HS hkk
        go_enter Try.func29, Try.ntmps29
        go_wp2
        go_ret2
        exact ⟨ret_two (by rw [(unhide HR).2, unhide HK]; go_num) (unhide HR).1.symm, rfl⟩
    · by_cases hq0 : q = 0
      · subst hq0
        have hkk := unhide HY (.inr rfl)
        have HK := hide hkk
        have HR := hide (unhide HO (by omega))
        clear HY HN HO HS hkk
        go_enter Try.func29, Try.ntmps29
        go_wp2
        go_ret2
        exact ⟨ret_two (by rw [(unhide HR).2, unhide HK]; rfl) (unhide HR).1.symm, rfl⟩
      · have hkk := unhide HN (by omega)
        have HK := hide hkk
        by_cases hbig : 128 < q
        · have HR := hide (unhide HS (by omega))
          clear HY HN HO HS hkk
          go_enter Try.func29, Try.ntmps29
          go_wp2
          go_ret2
          exact ⟨ret_two (unhide HR).2.symm (unhide HR).1.symm, rfl⟩
        · have HR := hide (unhide HO (by omega))
          clear HY HN HO HS hkk
          go_enter Try.func29, Try.ntmps29
          go_wp2
          go_ret2
          exact ⟨ret_two (by rw [(unhide HR).2, unhide HK]) (unhide HR).1.symm, rfl⟩

set_option maxHeartbeats 400000 in
theorem rplan_any (n z : Int) (w : World) (hn : n ≤ 9223372036854775807) :
    Calls Try.prog 30 #[.int .i64 n, .int .i64 z] w fun e w' => e = .returned (.tuple #[.int .i64 (planK n z), .int .i64 (planE n z)]) ∧ w' = w := by
  by_cases h : n < 0 ∨ z < 1 ∨ 64 < z
  · rw [(plan_arg h).1, (plan_arg h).2]
    by_cases h1 : n < 0
    · clear h
      go_enter Try.func30, Try.ntmps30
      go_wp2
      go_ret2
      exact ⟨rfl, rfl⟩
    · by_cases h2 : z < 1
      · clear h
        go_enter Try.func30, Try.ntmps30
        go_wp2
        go_ret2
        exact ⟨rfl, rfl⟩
      · have h3 : 64 < z := by omega
        clear h
        go_enter Try.func30, Try.ntmps30
        go_wp2
        go_ret2
        exact ⟨rfl, rfl⟩
  · obtain ⟨N, rfl⟩ : ∃ N : Nat, n = (N : Int) := ⟨n.toNat, by omega⟩
    obtain ⟨Z, rfl⟩ : ∃ Z : Nat, z = (Z : Int) := ⟨z.toNat, by omega⟩
    have hz1 : 1 ≤ Z := by omega
    have hz2 : Z ≤ 64 := by omega
    have hz0 : (1 : Int) ≤ (Z : Int) := by omega
    have hz3 : (Z : Int) ≤ 64 := by omega
    have hn0 : (0 : Int) ≤ (N : Int) := by omega
    by_cases hbig : 128 < kc N Z
    · have hb2 := (kc_great N Z 128 hz1 (by decide)).1 hbig
      have hb3 : (Z : Int) * 128 < (N : Int) := by omega
      have HR := hide (plan_size hz1 hz2 hbig)
      obtain ⟨E0, hE0⟩ : ∃ E0, planE (N : Int) (Z : Int) = E0 := ⟨_, rfl⟩
      obtain ⟨K0, hK0⟩ : ∃ K0, planK (N : Int) (Z : Int) = K0 := ⟨_, rfl⟩
      rw [hE0, hK0]
      rw [hE0, hK0] at HR
      clear hE0 hK0 hbig hb2 h
      go_enter Try.func30, Try.ntmps30
      go_wp2
      go_ret2
      exact ⟨ret_two (unhide HR).2.symm (unhide HR).1.symm, rfl⟩
    · have hb2 : ¬ 128 * Z < N := fun h => hbig ((kc_great N Z 128 hz1 (by decide)).2 h)
      have hb3 : (N : Int) ≤ (Z : Int) * 128 := by omega
      have HR := hide (plan_ok (n := N) hz1 hz2 (by omega))
      obtain ⟨E0, hE0⟩ : ∃ E0, planE (N : Int) (Z : Int) = E0 := ⟨_, rfl⟩
      obtain ⟨K0, hK0⟩ : ∃ K0, planK (N : Int) (Z : Int) = K0 := ⟨_, rfl⟩
      rw [hE0, hK0]
      rw [hE0, hK0] at HR
      have hkb : kc N Z ≤ 128 := by omega
      clear hE0 hK0 hbig hb2 h
      go_enter Try.func30, Try.ntmps30
      go_wp2
      go_loop [6] (fun v => ∃ k : Nat, 1 ≤ k ∧ k ≤ kc N Z ∧ v = .int .i64 k) (fun v => kc N Z - (intOf v).toNat)
      case atStart => exact ⟨1, Nat.le_refl _, kc_pos _ _, rfl⟩
      case round =>
        obtain ⟨k, hk1, hk2, rfl⟩ := hrel
        have hmz : k * Z ≤ 8192 := Nat.le_trans (Nat.mul_le_mul (show k ≤ 128 by omega) hz2) (by decide)
        have emul : (k : Int) * (Z : Int) = ((k * Z : Nat) : Int) := by simp
        have HG := hide (kc_great N Z k hz1 hk1)
        have HP := hide (fun h => kc_eq N Z k hz1 hk1 h)
        have hkb' : (k : Int) ≤ 128 := by omega
        by_cases hlt : k * Z < N
        · have hk3 := (unhide HG).2 hlt
          generalize k * Z = m at *
          generalize kc N Z = K at *
          clear HG HP
          go_wp2
          go_round
          case rel => exact ⟨k + 1, by omega, by omega, by go_num⟩
          case measure => simp [intOf]; omega
        · have hk3 : ¬ k < kc N Z := fun h => hlt ((unhide HG).1 h)
          have HE := hide (show kc N Z = k by omega)
          generalize k * Z = m at *
          generalize kc N Z = K at *
          clear HG HP
          go_wp2
          go_ret2
          exact ⟨ret_two (by rw [(unhide HR).2, unhide HE]) (unhide HR).1.symm, rfl⟩

end Go.Proofs.Ytljkmajajcocdaa
