/-
  Contracts of split.Plan and bucketlineref09.Plan: for every two ints. Of bucketlineref02.Texts: for every two slices of texts.
-/
import Derived.Test.YtmegeoiilpciiaaTM
import Derived.Deep.QuietTactic
import Derived.BigQuiet
namespace Go.Proofs.Ytmegeoiilpciiaa
open Go.RowKit
set_option linter.unusedVariables false
set_option maxRecDepth 4000

theorem ret_two {k k' : IntKind} {a b c d : Int} (h : a = c) (h' : b = d) : Ending.returned (.tuple #[.int k a, .int k' b]) = .returned (.tuple #[.int k c, .int k' d]) := by rw [h, h']
theorem kc_yes {n z : Nat} (h : 0 < n % z ∨ n / z = 0) : kc n z = n / z + 1 := if_pos h
theorem kc_no {n z : Nat} (h : ¬ (0 < n % z ∨ n / z = 0)) : kc n z = n / z := if_neg h

set_option maxHeartbeats 400000 in
theorem plan_any (n z : Int) (w : World) (hn : n ≤ 9223372036854775807) :
    Calls Try.prog 8 #[.int .i64 n, .int .i64 z] w fun e w' => e = .returned (.tuple #[.int .i64 (planK n z), .int .i64 (planE n z)]) ∧ w' = w := by
  by_cases h : n < 0 ∨ z < 1 ∨ 64 < z
  · rw [(plan_arg h).1, (plan_arg h).2]
    by_cases h1 : n < 0
    · clear h
      go_enter Try.func8, Try.ntmps8
      go_wp2
      go_ret2
      exact ⟨rfl, rfl⟩
    · by_cases h2 : z < 1
      · clear h
        go_enter Try.func8, Try.ntmps8
        go_wp2
        go_ret2
        exact ⟨rfl, rfl⟩
      · have h3 : 64 < z := by omega
        clear h
        go_enter Try.func8, Try.ntmps8
        go_wp2
        go_ret2
        exact ⟨rfl, rfl⟩
  · obtain ⟨N, rfl⟩ : ∃ N : Nat, n = (N : Int) := ⟨n.toNat, by omega⟩
    obtain ⟨Z, rfl⟩ : ∃ Z : Nat, z = (Z : Int) := ⟨z.toNat, by omega⟩
    have hz1 : 1 ≤ Z := by omega
    have hz2 : Z ≤ 64 := by omega
    have hz0 : (1 : Int) ≤ (Z : Int) := by omega
    have hz3 : (Z : Int) ≤ 64 := by omega
    have hn0 : (0 : Int) ≤ (N : Int) := by omega
    have eq : (N : Int) / (Z : Int) = ((N / Z : Nat) : Int) := by simp
    have er : (N : Int) % (Z : Int) = ((N % Z : Nat) : Int) := by simp
    have hq : N / Z ≤ N := Nat.div_le_self _ _
    have hqr : N / Z + N % Z ≤ N := by
      have h1 := Nat.div_add_mod N Z
      have h2 := Nat.le_mul_of_pos_left (N / Z) (show 0 < Z by omega)
      omega
    have HY := hide (fun h => kc_yes (n := N) (z := Z) h)
    have HN := hide (fun h => kc_no (n := N) (z := Z) h)
    have HO := hide (fun h => plan_ok (n := N) hz1 hz2 h)
    have HS := hide (fun h => plan_size (n := N) hz1 hz2 h)
    generalize kc N Z = k at *
    obtain ⟨E0, hE0⟩ : ∃ E0, planE (N : Int) (Z : Int) = E0 := ⟨_, rfl⟩
    obtain ⟨K0, hK0⟩ : ∃ K0, planK (N : Int) (Z : Int) = K0 := ⟨_, rfl⟩
    rw [hE0, hK0]
    rw [hE0, hK0] at HO HS
    clear h hE0 hK0
    generalize N / Z = q at *
    generalize N % Z = r at *
    by_cases hr : 0 < r
    · have hkk := unhide HY (.inl hr)
      have HK := hide hkk
      by_cases hbig : 128 < q + 1
      · have hbi : (128 : Int) < (q : Int) + 1 := by omega
        have HR := hide (unhide HS (by omega))
        clear HY HN HO HS hkk
        go_enter Try.func8, Try.ntmps8
        go_wp2
        go_ret2
        exact ⟨ret_two (unhide HR).2.symm (unhide HR).1.symm, rfl⟩
      · have HR := hide (unhide HO (by omega))
        clear HY HN HO HS hkk
        go_enter Try.func8, Try.ntmps8
        go_wp2
        go_ret2
        exact ⟨ret_two (by rw [(unhide HR).2, unhide HK]; go_num) (unhide HR).1.symm, rfl⟩
    · by_cases hq0 : q = 0
      · subst hq0
        have hkk := unhide HY (.inr rfl)
        have HK := hide hkk
        have HR := hide (unhide HO (by omega))
        clear HY HN HO HS hkk
        go_enter Try.func8, Try.ntmps8
        go_wp2
        go_ret2
        exact ⟨ret_two (by rw [(unhide HR).2, unhide HK]; rfl) (unhide HR).1.symm, rfl⟩
      · have hkk := unhide HN (by omega)
        have HK := hide hkk
        by_cases hbig : 128 < q
        · have HR := hide (unhide HS (by omega))
          clear HY HN HO HS hkk
          go_enter Try.func8, Try.ntmps8
          go_wp2
          go_ret2
          exact ⟨ret_two (unhide HR).2.symm (unhide HR).1.symm, rfl⟩
        · have HR := hide (unhide HO (by omega))
          clear HY HN HO HS hkk
          go_enter Try.func8, Try.ntmps8
          go_wp2
          go_ret2
          exact ⟨ret_two (by rw [(unhide HR).2, unhide HK]) (unhide HR).1.symm, rfl⟩

set_option maxHeartbeats 400000 in
theorem rplan_any (n z : Int) (w : World) (hn : n ≤ 9223372036854775807) :
    Calls Try.prog 9 #[.int .i64 n, .int .i64 z] w fun e w' => e = .returned (.tuple #[.int .i64 (planK n z), .int .i64 (planE n z)]) ∧ w' = w := by
  by_cases h : n < 0 ∨ z < 1 ∨ 64 < z
  · rw [(plan_arg h).1, (plan_arg h).2]
    by_cases h1 : n < 0
    · clear h
      go_enter Try.func9, Try.ntmps9
      go_wp2
      go_ret2
      exact ⟨rfl, rfl⟩
    · by_cases h2 : z < 1
      · clear h
        go_enter Try.func9, Try.ntmps9
        go_wp2
        go_ret2
        exact ⟨rfl, rfl⟩
      · have h3 : 64 < z := by omega
        clear h
        go_enter Try.func9, Try.ntmps9
        go_wp2
        go_ret2
        exact ⟨rfl, rfl⟩
  · obtain ⟨N, rfl⟩ : ∃ N : Nat, n = (N : Int) := ⟨n.toNat, by omega⟩
    obtain ⟨Z, rfl⟩ : ∃ Z : Nat, z = (Z : Int) := ⟨z.toNat, by omega⟩
    have hz1 : 1 ≤ Z := by omega
    have hz2 : Z ≤ 64 := by omega
    have hz0 : (1 : Int) ≤ (Z : Int) := by omega
    have hz3 : (Z : Int) ≤ 64 := by omega
    have hn0 : (0 : Int) ≤ (N : Int) := by omega
    by_cases hbig : 128 < kc N Z
    · have hb2 := (kc_great N Z 128 hz1 (by decide)).1 hbig
      have hb3 : (Z : Int) * 128 < (N : Int) := by omega
      have HR := hide (plan_size hz1 hz2 hbig)
      obtain ⟨E0, hE0⟩ : ∃ E0, planE (N : Int) (Z : Int) = E0 := ⟨_, rfl⟩
      obtain ⟨K0, hK0⟩ : ∃ K0, planK (N : Int) (Z : Int) = K0 := ⟨_, rfl⟩
      rw [hE0, hK0]
      rw [hE0, hK0] at HR
      clear hE0 hK0 hbig hb2 h
      go_enter Try.func9, Try.ntmps9
      go_wp2
      go_ret2
      exact ⟨ret_two (unhide HR).2.symm (unhide HR).1.symm, rfl⟩
    · have hb2 : ¬ 128 * Z < N := fun h => hbig ((kc_great N Z 128 hz1 (by decide)).2 h)
      have hb3 : (N : Int) ≤ (Z : Int) * 128 := by omega
      have HR := hide (plan_ok (n := N) hz1 hz2 (by omega))
      obtain ⟨E0, hE0⟩ : ∃ E0, planE (N : Int) (Z : Int) = E0 := ⟨_, rfl⟩
      obtain ⟨K0, hK0⟩ : ∃ K0, planK (N : Int) (Z : Int) = K0 := ⟨_, rfl⟩
      rw [hE0, hK0]
      rw [hE0, hK0] at HR
      have hkb : kc N Z ≤ 128 := by omega
      clear hE0 hK0 hbig hb2 h
      go_enter Try.func9, Try.ntmps9
      go_wp2
      go_loop [6] (fun v => ∃ k : Nat, 1 ≤ k ∧ k ≤ kc N Z ∧ v = .int .i64 k) (fun v => kc N Z - (intOf v).toNat)
      case atStart => exact ⟨1, Nat.le_refl _, kc_pos _ _, rfl⟩
      case round =>
        obtain ⟨k, hk1, hk2, rfl⟩ := hrel
        have hmz : k * Z ≤ 8192 := Nat.le_trans (Nat.mul_le_mul (show k ≤ 128 by omega) hz2) (by decide)
        have emul : (k : Int) * (Z : Int) = ((k * Z : Nat) : Int) := by simp
        have HG := hide (kc_great N Z k hz1 hk1)
        have HP := hide (fun h => kc_eq N Z k hz1 hk1 h)
        have hkb' : (k : Int) ≤ 128 := by omega
        by_cases hlt : k * Z < N
        · have hk3 := (unhide HG).2 hlt
          generalize k * Z = m at *
          generalize kc N Z = K at *
          clear HG HP
          go_wp2
          go_round
          case rel => exact ⟨k + 1, by omega, by omega, by go_num⟩
          case measure => simp [intOf]; omega
        · have hk3 : ¬ k < kc N Z := fun h => hlt ((unhide HG).1 h)
          have HE := hide (show kc N Z = k by omega)
          generalize k * Z = m at *
          generalize kc N Z = K at *
          clear HG HP
          go_wp2
          go_ret2
          exact ⟨ret_two (by rw [(unhide HR).2, unhide HE]) (unhide HR).1.symm, rfl⟩

set_option maxHeartbeats 400000 in
theorem texts_any (a : Option Addr) (n c : Nat) (ss : List ByteArray) (a' : Option Addr) (n' c' : Nat) (ts : List ByteArray) (w : World) (h : TextsAt w a n ss) (h' : TextsAt w a' n' ts) (hn : n ≤ 1048576) (hn' : n' ≤ 1048576) :
    Calls Try.prog 13 #[.slice a n c, .slice a' n' c'] w fun e w' => e = .returned (.bool (decide (ss = ts))) ∧ ∃ d, w' = w.drewN d := by
  obtain rfl := h.1
  obtain rfl := h'.1
  by_cases hl : ss.length = ts.length
  · have HL := hide hl
    obtain ⟨v, hv⟩ : ∃ v, decide (ss = ts) = v := ⟨_, rfl⟩
    have HV := hide hv
    rw [hv]
    have hli : ((ss.length : Int) = (ts.length : Int)) := by omega
    rw [← hl] at h' ⊢
    clear hv hl hli
    go_enter Try.func13, Try.ntmps13
    go_wp2
    go_loopw [5] (fun i wr => ∃ k : Nat, k ≤ ss.length ∧ i = .int .i64 k ∧ Hid (∀ j, j < k → ss.getD j ByteArray.empty = ts.getD j ByteArray.empty) ∧ ∃ d, wr = w.drewN d) (fun i _ => ss.length - (intOf i).toNat)
    case atStart => exact ⟨0, Nat.zero_le _, rfl, hide (fun j hj => by omega), 0, rfl⟩
    case round =>
      obtain ⟨k, hk, rfl, HE, d, rfl⟩ := hrel
      by_cases hlt : k < ss.length
      · obtain ⟨b, off, rfl, hc⟩ := h.at hlt
        obtain ⟨b', off', rfl, hc'⟩ := h'.at hlt
        have c1 := hc k hlt
        have c2 := hc' k hlt
        have hlt' : (k : Int) < (ss.length : Int) := by omega
        have HX := hide (show ss.getD k ByteArray.empty = ts.getD k ByteArray.empty → ∀ j, j < k + 1 → ss.getD j ByteArray.empty = ts.getD j ByteArray.empty from fun h0 j hj => by
          by_cases e : j = k
          · subst e; exact h0
          · exact unhide HE j (by omega))
        have HY := hide (show ss.getD k ByteArray.empty ≠ ts.getD k ByteArray.empty → v = false from fun h0 => by
          rw [← unhide HV]
          exact decide_eq_false fun e => h0 (by rw [e]))
        have he := eq_texts (ss.getD k ByteArray.empty) (ts.getD k ByteArray.empty)
        generalize ss.getD k ByteArray.empty = x at *
        generalize ts.getD k ByteArray.empty = y at *
        clear hc hc' h h' HE
        by_cases hxy : x = y
        · have HX2 := hide (unhide HX hxy)
          rw [decide_eq_true hxy] at he
          clear HX HY hxy
          go_wp2
          go_quiet (fail)
          go_wp2
          go_roundw
          case rel => exact ⟨k + 1, by omega, by go_num, HX2, _, rfl⟩
          case measure => simp [intOf]; omega
        · have HY2 := hide (unhide HY hxy)
          rw [decide_eq_false hxy] at he
          clear HX HY hxy
          go_wp2
          go_quiet (fail)
          go_wp2
          go_ret
          exact ⟨ret_bool (unhide HY2).symm, _, World.drewN_drewN ..⟩
      · have hke : k = ss.length := by omega
        subst hke
        have HT := hide (show v = true from by
          rw [← unhide HV]
          apply decide_eq_true
          apply List.ext_getElem (unhide HL)
          intro i h1 h2
          have := unhide HE i h1
          simpa [List.getD_eq_getElem?_getD, List.getElem?_eq_getElem h1, List.getElem?_eq_getElem h2] using this)
        clear h h' HE
        go_wp2
        go_ret
        exact ⟨ret_bool (unhide HT).symm, d, rfl⟩
  · have hv : decide (ss = ts) = false := decide_eq_false fun e => hl (by rw [e])
    rw [hv]
    have hli : ¬ ((ss.length : Int) = (ts.length : Int)) := by omega
    clear h h'
    go_enter Try.func13, Try.ntmps13
    go_wp2
    go_ret
    exact ⟨rfl, 0, rfl⟩
end Go.Proofs.Ytmegeoiilpciiaa
